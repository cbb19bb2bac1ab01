/- The plain mathematics of datagrams: their bytes, and what is opened of bytes. -/
import Derived.Test.YthcokaffbgbanaaDoorXl
import Derived.Test.YthcokaffbgbanaaDoorXf
import Derived.Test.YthcokaffbgbanaaDoorXa
import Derived.Test.YthcokaffbgbanaaDoorXk
import Derived.Test.YthcokaffbgbanaaDoorXg
import Derived.Test.YthcokaffbgbanaaDoorXi
import Derived.Deep.Heap
namespace Go.Proofs.YthcokaffbgbanaaDoor.Gf

/-- A datagram's bytes. -/
def dgB (key : List UInt8) (f q s e : Nat) (l : List UInt8) : List UInt8 := be8 (hdN f q) ++ sealed key (nnc (hdN f q)) [] (tms s e ++ l)
theorem dgB_len (key : List UInt8) (f q s e : Nat) (l : List UInt8) : (dgB key f q s e l).length = l.length + 28 := by
  unfold dgB; rw [List.length_append, be8_len, sealed_len, List.length_append, tms_len]; omega
def byE (f q n : Nat) : Int := if (f = 1 ∨ f = 2) ∧ q < 4611686018427387904 ∧ n ≤ 65000 then 0 else 2
def byL (key : List UInt8) (f q s e : Nat) (l : List UInt8) : List UInt8 := if byE f q l.length = 0 then dgB key f q s e l else []
theorem byE_ok {f q n : Nat} (h : byE f q n = 0) : (f = 1 ∨ f = 2) ∧ q < 4611686018427387904 ∧ n ≤ 65000 := by
  unfold byE at h
  split at h
  · assumption
  · omega
/-- What is opened of bytes: the error; the plain bytes. -/
def dgP (key b : List UInt8) : List UInt8 := opL key (nnc (numTo b 0 8)) [] (b.drop 8)
def dgE (key : List UInt8) (f : Nat) (b : List UInt8) : Int :=
  if f = 1 ∨ f = 2 then
    if b.length < 28 then 7
    else if sdN (numTo b 0 8) = f then
      if 4611686018427387904 ≤ sqN (numTo b 0 8) ∨ 65028 < b.length then 8
      else opE key (nnc (numTo b 0 8)) [] (b.drop 8)
    else 82
  else 2
def dgQ (key : List UInt8) (f : Nat) (b : List UInt8) : Nat := if dgE key f b = 0 then sqN (numTo b 0 8) else 0
def dgS (key : List UInt8) (f : Nat) (b : List UInt8) : Nat := if dgE key f b = 0 then tmA (dgP key b) 0 else 0
def dgO (key : List UInt8) (f : Nat) (b : List UInt8) : Nat := if dgE key f b = 0 then tmA (dgP key b) 2 else 0
def dgL (key : List UInt8) (f : Nat) (b : List UInt8) : List UInt8 := if dgE key f b = 0 then (dgP key b).drop 4 else []
theorem opE_cases (key ln ls : List UInt8) (hn : ln.length = 12) (h1 : 16 ≤ ls.length) (h2 : ls.length ≤ 65552) :
    (openTag key ln [] ls = ls.drop (ls.length - 16) ∧ opE key ln [] ls = 0 ∧ opL key ln [] ls = (unturned key ln ls).1) ∨ (openTag key ln [] ls ≠ ls.drop (ls.length - 16) ∧ opE key ln [] ls = 20 ∧ opL key ln [] ls = []) := by
  have hf : fault ln.length ([] : List UInt8).length ((ls.length : Int) - 16) = 0 := by
    unfold fault
    rw [hn, if_neg (by omega), if_neg (by simp; omega)]
  by_cases hd : openTag key ln [] ls = ls.drop (ls.length - 16)
  · have e : opE key ln [] ls = 0 := by unfold opE; rw [if_pos hf, if_neg (by omega), if_pos hd]
    exact .inl ⟨hd, e, by unfold opL; rw [if_pos e]⟩
  · have e : opE key ln [] ls = 20 := by unfold opE; rw [if_pos hf, if_neg (by omega), if_neg hd]
    exact .inr ⟨hd, e, by unfold opL; rw [e]; rfl⟩
theorem dgE_ok {key : List UInt8} {f : Nat} {b : List UInt8} (h : dgE key f b = 0) :
    (f = 1 ∨ f = 2) ∧ 28 ≤ b.length ∧ b.length ≤ 65028 ∧ sdN (numTo b 0 8) = f ∧ sqN (numTo b 0 8) < 4611686018427387904 ∧ opE key (nnc (numTo b 0 8)) [] (b.drop 8) = 0 ∧ sealed key (nnc (numTo b 0 8)) [] (dgP key b) = b.drop 8 := by
  unfold dgE at h
  split at h
  case isFalse => omega
  case isTrue h1 =>
    split at h
    · omega
    · split at h
      case isFalse => omega
      case isTrue h2 =>
        split at h
        · omega
        · have hl : (b.drop 8).length = b.length - 8 := List.length_drop
          rcases opE_cases key (nnc (numTo b 0 8)) (b.drop 8) (nnc_len _) (by omega) (by omega) with ⟨ht, _, hL⟩ | ⟨_, h5, _⟩
          · refine ⟨h1, by omega, by omega, h2, by omega, h, ?_⟩
            unfold dgP
            rw [hL]
            exact seal_opened _ _ _ _ ht
          · omega
theorem dgP_len {key : List UInt8} {f : Nat} {b : List UInt8} (h : dgE key f b = 0) : (dgP key b).length = b.length - 24 := by
  obtain ⟨_, h2, _, _, _, _, h7⟩ := dgE_ok h
  have := sealed_len key (nnc (numTo b 0 8)) [] (dgP key b)
  rw [h7, List.length_drop] at this
  omega
theorem by_dg {key : List UInt8} {f : Nat} {b : List UInt8} (h : dgE key f b = 0) :
    dgB key f (dgQ key f b) (dgS key f b) (dgO key f b) (dgL key f b) = b ∧ byE f (dgQ key f b) (dgL key f b).length = 0 := by
  have hlen := dgP_len h
  obtain ⟨h1, h2, h3, h4, h5, h6, h7⟩ := dgE_ok h
  have e1 : dgQ key f b = sqN (numTo b 0 8) := if_pos h
  have e2 : dgS key f b = tmA (dgP key b) 0 := if_pos h
  have e3 : dgO key f b = tmA (dgP key b) 2 := if_pos h
  have e4 : dgL key f b = (dgP key b).drop 4 := if_pos h
  rw [e1, e2, e3, e4]
  constructor
  · unfold dgB
    rw [hd_sq (numTo_lt8 _ _) h4, tms_tmA _ (by omega), h7, be_num _ (by omega), List.take_append_drop]
  · unfold byE
    rw [if_pos ⟨h1, h5, by rw [List.length_drop]; omega⟩]
theorem dg_by {key : List UInt8} {f q s e : Nat} {l : List UInt8} (h : byE f q l.length = 0) (hs : s < 65536) (he : e < 65536) :
    dgE key f (dgB key f q s e l) = 0 ∧ dgQ key f (dgB key f q s e l) = q ∧ dgS key f (dgB key f q s e l) = s ∧ dgO key f (dgB key f q s e l) = e ∧ dgL key f (dgB key f q s e l) = l := by
  obtain ⟨h1, h2, h3⟩ := byE_ok h
  have hlen := dgB_len key f q s e l
  have hnum : numTo (dgB key f q s e l) 0 8 = hdN f q := num_be _ (hdN_lt h2) _
  have hdrop : (dgB key f q s e l).drop 8 = sealed key (nnc (hdN f q)) [] (tms s e ++ l) := by
    unfold dgB
    rw [List.drop_append_of_le_length (by rw [be8_len]; exact Nat.le_refl _), List.drop_of_length_le (by rw [be8_len]; exact Nat.le_refl _), List.nil_append]
  have hos := open_sealed key (nnc (hdN f q)) [] (tms s e ++ l)
  have hsl := sealed_len key (nnc (hdN f q)) [] (tms s e ++ l)
  have htl : (tms s e ++ l).length = l.length + 4 := by rw [List.length_append, tms_len]; omega
  have hP : opE key (nnc (hdN f q)) [] (sealed key (nnc (hdN f q)) [] (tms s e ++ l)) = 0 ∧ opL key (nnc (hdN f q)) [] (sealed key (nnc (hdN f q)) [] (tms s e ++ l)) = tms s e ++ l := by
    rcases opE_cases key (nnc (hdN f q)) (sealed key (nnc (hdN f q)) [] (tms s e ++ l)) (nnc_len _) (by omega) (by omega) with ⟨_, h5, h6⟩ | ⟨h5, _⟩
    · exact ⟨h5, by rw [h6]; exact hos.1⟩
    · exfalso
      apply h5
      rw [hos.2]
      congr 1
      omega
  have hE : dgE key f (dgB key f q s e l) = 0 := by
    unfold dgE
    rw [if_pos h1, if_neg (by omega), hnum, if_pos (sd_hd h1 h2), if_neg (by rw [sq_hd h2]; omega), hdrop]
    exact hP.1
  have hdP : dgP key (dgB key f q s e l) = tms s e ++ l := by
    unfold dgP
    rw [hnum, hdrop]
    exact hP.2
  refine ⟨hE, ?_, ?_, ?_, ?_⟩
  · unfold dgQ; rw [if_pos hE, hnum, sq_hd h2]
  · unfold dgS; rw [if_pos hE, hdP, tmA_s hs]
  · unfold dgO; rw [if_pos hE, hdP, tmA_e he]
  · unfold dgL; rw [if_pos hE, hdP]; rfl
theorem dgS_lt (key : List UInt8) (f : Nat) (b : List UInt8) : dgS key f b < 65536 := by unfold dgS; split; exact tmA_lt _ _; omega
theorem dgO_lt (key : List UInt8) (f : Nat) (b : List UInt8) : dgO key f b < 65536 := by unfold dgO; split; exact tmA_lt _ _; omega
theorem dgQ_lt (key : List UInt8) (f : Nat) (b : List UInt8) : dgQ key f b < 4611686018427387904 := by
  unfold dgQ; split
  · rename_i h; exact (dgE_ok h).2.2.2.2.1
  · omega
end Go.Proofs.YthcokaffbgbanaaDoor.Gf

/- A region that draws its order, whose head only makes memory, with guards that are met; and whose tail is forced. -/
namespace Go.Proofs.YthcokaffbgbanaaDoor
open Go.RowKit
section
variable {P : Program} {Q : Exit → Act → World → Prop}
theorem setAll_size (l : List Oper) (k : Nat) (f : Nat → Value) (t : Array Value) : (setAll l k f t).size = t.size := by
  induction l generalizing k t with
  | nil => rfl
  | cons o r ih =>
    simp only [setAll]
    rw [ih]
    split <;> simp
theorem setAll_get (l : List Oper) (k : Nat) (f : Nat → Value) (t : Array Value) (i : Nat) (o : Oper) (d : Nat) (ho : l[i]? = some o) (hd : o.dst = some d)
    (hn : ∀ j o', l[j]? = some o' → o'.dst = some d → j = i) (hs : d < t.size) : (setAll l k f t)[d]? = some (f (k + i)) := by
  have h := setAll_upd l k f t i (f (k + i)) o d ho hd hn
  have hf : upd f (k + i) (f (k + i)) = f := by
    funext j
    unfold upd
    split
    · rename_i e; rw [e]
    · rfl
  rw [hf] at h
  rw [← h, Array.getElem?_setIfInBounds_self_of_lt (by rw [setAll_size]; exact hs)]
theorem wpOp_want {ops : Array Oper} {i : Nat} {o : Oper} {K : Act → World → Prop} {a : Act} {w : World} (ho : ops[i]? = some o) (hg : Region.wanted o (yielded ops a.tmps) = true) (h : o.wp P a w K Q) : wpOp P ops Q i K a w := by
  unfold wpOp
  rw [ho]
  simp only [hg, if_true]
  exact .inl h
/-- The closed facts of such a region: slots of the head apart, each guard behind its own, each operation behind earlier ones alone, the tail behind all that stands ahead of it. -/
def growgB (l : List Oper) (n sz : Nat) : Bool :=
  (List.range n).all (fun i => ((l[i]?).map fun o => (match o.guard with
    | none => true
    | some (j, _) => behind o j && decide (j < n) && ((l[j]?).map fun p => match p.dst with | some d => decide (d < sz) | none => false).getD false) && (o.dst.isNone || (List.range n).all fun j => decide (j = i) || ((l[j]?).map fun p => p.dst != o.dst).getD true)).getD false)
  && (List.range l.length).all (fun i => ((l[i]?).map fun o => o.after.toList.all fun e => !Region.binds .any e || decide (e.on < i)).getD true)
  && (List.range l.length).all (fun i => decide (i < n) || (List.range i).all fun j => anc l l.length i j)
  && decide (n ≤ l.length)
theorem wp_region_growg {id : Nat} {t : Array Value} {df : List Deferred} {w : World} {l : List Oper} (n : Nat) (hm : P.follows .mixedOrders = true) (sz : Nat) (hts : t.size = sz) (hB : growgB l n sz = true)
    (G : World → World → Prop) (C : World → Prop) (V : Nat → World → Value → Prop) (hgv : ∀ (i : Nat) (o : Oper) (j : Nat) (b : Bool), (l.take n)[i]? = some o → o.guard = some (j, b) → ∀ w v, C w → V j w v → v = .bool b) (hC : ∀ w w', G w w' → C w → C w') (hV : ∀ k v w w', C w → G w w' → V k w v → V k w' v) (h0 : C w.drew)
    (hops : Grows P Q G C V (l.take n) t df (l.take n) 0)
    (hend : ∀ f w', C w' → (∀ k, k < n → V k w' (f k)) → wpList P l.toArray Q (l.drop n) ⟨setAll (l.take n) 0 f t, df⟩ w') :
    (Code.region id l.toArray true).wp P Q ⟨t, df⟩ w := by
  simp only [growgB, Bool.and_eq_true, List.all_eq_true, List.mem_range, decide_eq_true_eq] at hB
  obtain ⟨⟨⟨hB1, hB2⟩, hB3⟩, hn⟩ := hB
  have hget : ∀ i o, i < n → l[i]? = some o → (l.take n)[i]? = some o := fun i o hi ho => by rw [List.getElem?_take, if_pos hi]; exact ho
  have hone : ∀ i o d, i < n → l[i]? = some o → o.dst = some d → ∀ j o', (l.take n)[j]? = some o' → o'.dst = some d → j = i := by
    intro i o d hi ho hd j o' hj hd'
    have hjn : j < n := by
      rcases Nat.lt_or_ge j n with h | h
      · exact h
      · rw [List.getElem?_take, if_neg (by omega)] at hj; cases hj
    rw [List.getElem?_take, if_pos hjn] at hj
    have := hB1 i hi
    rw [ho] at this
    simp only [Option.map_some, Option.getD_some, Bool.and_eq_true, List.all_eq_true, List.mem_range, Bool.or_eq_true, decide_eq_true_eq, hd, Option.isNone_some, Bool.false_eq_true, false_or] at this
    rcases this.2 j hjn with h | h
    · exact h
    · rw [hj] at h
      simp [hd'] at h
  have hdepAll : ∀ (L : Array Bool) i o, closedB l L → n ≤ i → l[i]? = some o → (∀ e ∈ o.after, Region.binds .any e = true → L.getD e.on false = true) → ∀ k, k < i → L.getD k false = true := by
    intro L i o hc hi ho hdep k hk
    have hil : i < l.length := (List.getElem?_eq_some_iff.1 ho).1
    have := hB3 i hil
    simp only [Bool.or_eq_true, decide_eq_true_eq, List.all_eq_true, List.mem_range] at this
    rcases this with h | h
    · omega
    · exact anc_done l L hc _ i k o ho hdep (h k hk)
  have hwpo : ∀ i o K a w, l[i]? = some o → wpList P l.toArray Q (o :: l.drop (i + 1)) a w → (∀ a w, wpList P l.toArray Q (l.drop (i + 1)) a w → K a w) → wpOp P l.toArray Q i K a w := by
    intro i o K a w ho h hK
    refine wpOp_mono hK ?_
    unfold wpOp
    have ho' : l.toArray[i]? = some o := by simpa using ho
    rw [ho']
    exact h
  have hdrop : ∀ i o, l[i]? = some o → l.drop i = o :: l.drop (i + 1) := fun i o ho => by
    obtain ⟨h1, h2⟩ := List.getElem?_eq_some_iff.1 ho
    rw [List.drop_eq_getElem_cons h1, h2]
  refine wp_region_inv hm (fun L a w => L.size = l.length ∧ closedB l L ∧
    (((∀ k, n ≤ k → ¬ L.getD k false = true) ∧ ∃ f, a = ⟨setAll (l.take n) 0 f t, df⟩ ∧ C w ∧ ∀ k, k < n → L.getD k false = true → V k w (f k))
    ∨ (∃ j, n ≤ j ∧ j ≤ l.length ∧ (∀ k, k < j → L.getD k false = true) ∧ (∀ k, j ≤ k → ¬ L.getD k false = true) ∧ wpList P l.toArray Q (l.drop j) a w))) ?_ ?_ ?_
  · have hn0 : ∀ k, ¬ ((Array.replicate l.toArray.size false).getD k false = true) := by
      intro k h
      rw [Array.getD_eq_getD_getElem?, Array.getElem?_replicate] at h
      split at h <;> simp at h
    refine ⟨by simp, fun i o _ h => absurd h (hn0 i), .inl ⟨fun k _ => hn0 k, fun k => t.getD (((l[k]?).bind (·.dst)).getD 0) undef, ?_, h0, fun k _ h => absurd h (hn0 k)⟩⟩
    rw [setAll_init]
    intro i o d ho hd
    have ho2 : l[i]? = some o := by
      rw [List.getElem?_take] at ho
      split at ho
      · exact ho
      · cases ho
    simp only [Nat.zero_add, ho2, Option.bind_some, hd, Option.getD_some]
  · rintro L a w i o ⟨hsz, hcl, hI⟩ hL ho hdep
    have ho' : l[i]? = some o := by simpa using ho
    have hil : i < l.length := (List.getElem?_eq_some_iff.1 ho').1
    have hnd := getD_not hL
    have hS : (L.setIfInBounds i true).size = l.length := by simpa using hsz
    have hdone : (L.setIfInBounds i true).getD i false = true := by
      rw [Array.getD_eq_getD_getElem?, Array.getElem?_setIfInBounds]
      simp [hsz, hil]
    have hcl' : closedB l (L.setIfInBounds i true) := by
      intro k o' ho2 hk e he hb
      rcases getD_set L i k hk with rfl | h'
      · rw [ho'] at ho2; cases ho2
        exact getD_keep L _ _ (hdep e he hb)
      · exact getD_keep L _ _ (hcl k o' ho2 h' e he hb)
    rcases hI with ⟨ht, f, rfl, hCw, hf⟩ | ⟨j, hj1, hj2, hj3, hj4, hw⟩
    · by_cases hi : i < n
      · have hgd := hB1 i hi
        rw [ho'] at hgd
        simp only [Option.map_some, Option.getD_some, Bool.and_eq_true] at hgd
        have hg : Region.wanted o (yielded l.toArray (setAll (l.take n) 0 f t)) = true := by
          unfold Region.wanted
          cases hgo : o.guard with
          | none => rfl
          | some jb =>
            obtain ⟨j, b⟩ := jb
            have hgg := hgd.1
            rw [hgo] at hgg
            simp only [Bool.and_eq_true, decide_eq_true_eq] at hgg
            obtain ⟨⟨hbh, hjn⟩, hds⟩ := hgg
            cases hj : l[j]? with
            | none => rw [hj] at hds; simp at hds
            | some p =>
              rw [hj] at hds
              simp only [Option.map_some, Option.getD_some] at hds
              cases hpd : p.dst with
              | none => rw [hpd] at hds; simp at hds
              | some d =>
                rw [hpd] at hds
                simp only [decide_eq_true_eq] at hds
                have hdn : L.getD j false = true := by
                  unfold behind at hbh
                  rw [List.any_eq_true] at hbh
                  obtain ⟨e, he', hh⟩ := hbh
                  have he := Array.mem_toList_iff.1 he'
                  simp only [Bool.and_eq_true, beq_iff_eq] at hh
                  have := hdep e he hh.2
                  rw [hh.1] at this; exact this
                have hv := hgv i o j b (hget i o hi ho') hgo w (f j) hCw (hf j hjn hdn)
                have hsl := setAll_get (l.take n) 0 f t j p d (hget j p hjn hj) hpd (hone j p d hjn hj hpd) (by rw [hts]; exact hds)
                rw [Nat.zero_add] at hsl
                have hy : yielded l.toArray (setAll (l.take n) 0 f t) j = some b := by
                  unfold yielded
                  have : l.toArray[j]? = some p := by simpa using hj
                  rw [this]
                  simp only [Option.bind_some, hpd, hsl, hv]
                show (yielded l.toArray (setAll (l.take n) 0 f t) j == some b) = true
                rw [hy]
                simp
        refine wpOp_want ho hg (Grows.at hops i o (hget i o hi ho') f w hCw (fun k hk => ?_) _ (fun v w' hv hb => ?_))
        · unfold behind at hk
          rw [List.any_eq_true] at hk
          obtain ⟨e, he', hh⟩ := hk
          have he := Array.mem_toList_iff.1 he'
          simp only [Bool.and_eq_true, beq_iff_eq] at hh
          have h1 := hdep e he hh.2
          have h2 := hB2 i hil
          rw [ho'] at h2
          simp only [Option.map_some, Option.getD_some, List.all_eq_true, Bool.or_eq_true, Bool.not_eq_true', decide_eq_true_eq] at h2
          have h3 := (h2 e (Array.mem_toList_iff.2 he)).resolve_left (by rw [hh.2]; simp)
          rw [hh.1] at h1 h3
          exact hf k (by omega) h1
        · refine ⟨hS, hcl', .inl ⟨fun k hk h => ?_, upd f i v, ?_, hC _ _ hb hCw, fun k hk h => ?_⟩⟩
          · rcases getD_set L i k h with rfl | h'
            · omega
            · exact ht k hk h'
          · cases hd : o.dst with
            | some d =>
              have := setAll_upd (l.take n) 0 f t i v o d (hget i o hi ho') hd (hone i o d hi ho' hd)
              rw [Nat.zero_add] at this
              simp only [Act.put, this]
            | none =>
              have := setAll_none (l.take n) 0 f t i v o (hget i o hi ho') hd
              rw [Nat.zero_add] at this
              simp only [Act.put, this]
          · by_cases hki : k = i
            · subst hki
              rw [Nat.zero_add] at hv
              simpa [upd] using hv
            · have := hf k hk ((getD_set L i k h).resolve_left hki)
              simp only [upd, if_neg hki]
              exact hV k _ _ _ hCw hb this
      · have hall := hdepAll L i o hcl (by omega) ho' hdep
        have hin : i = n := by
          rcases Nat.lt_or_ge n i with h | h
          · exact absurd (hall n h) (ht n (Nat.le_refl _))
          · omega
        subst hin
        have hw := hend f w hCw fun k hk => hf k hk (hall k hk)
        rw [hdrop i o ho'] at hw
        refine hwpo i o _ _ _ ho' hw fun a w h => ⟨hS, hcl', .inr ⟨i + 1, by omega, by omega, fun k hk => ?_, fun k hk h => ?_, h⟩⟩
        · by_cases e : k = i
          · subst e; exact hdone
          · exact getD_keep L i k (hall k (by omega))
        · rcases getD_set L i k h with h' | h'
          · omega
          · exact ht k (by omega) h'
    · have hij : j ≤ i := by
        rcases Nat.lt_or_ge i j with h | h
        · exact absurd (hj3 i h) hnd
        · exact h
      have hall := hdepAll L i o hcl (by omega) ho' hdep
      have hin : i = j := by
        rcases Nat.lt_or_ge j i with h | h
        · exact absurd (hall j h) (hj4 j (Nat.le_refl _))
        · omega
      subst hin
      rw [hdrop i o ho'] at hw
      refine hwpo i o _ _ _ ho' hw fun a w h => ⟨hS, hcl', .inr ⟨i + 1, by omega, by omega, fun k hk => ?_, fun k hk h => ?_, h⟩⟩
      · by_cases e : k = i
        · subst e; exact hdone
        · exact getD_keep L i k (hall k (by omega))
      · rcases getD_set L i k h with h' | h'
        · omega
        · exact hj4 k (by omega) h'
  · rintro L a w ⟨hsz, _, hI⟩ hr
    have hall := all_done' hB2 L hsz hr
    rcases hI with ⟨ht, f, rfl, hCw, hf⟩ | ⟨j, hj1, hj2, hj3, hj4, hw⟩
    · have hnl : n = l.length := by
        rcases Nat.lt_or_ge n l.length with h | h
        · exact absurd (hall n h) (ht n (Nat.le_refl _))
        · omega
      have hw := hend f w hCw fun k hk => hf k hk (hall k (by omega))
      rw [List.drop_eq_nil_of_le (by omega)] at hw
      exact hw
    · have hjl : j = l.length := by
        rcases Nat.lt_or_ge j l.length with h | h
        · exact absurd (hall j h) (hj4 j (Nat.le_refl _))
        · omega
      rw [List.drop_eq_nil_of_le (by omega)] at hw
      exact hw

theorem wp_region_growt {id : Nat} {t : Array Value} {df : List Deferred} {w : World} {l : List Oper} (n sz : Nat) (gs : List Nat) (hts : t.size = sz) (hm : P.follows .mixedOrders = true) (hB : growgB l n sz = true)
    (hgs : ((l.take n).all fun o => match o.guard with | none => true | some (j, b) => b && gs.contains j) = true)
    (G : World → World → Prop) (C : World → Prop) (V : Nat → World → Value → Prop) (hgv : ∀ j, j ∈ gs → ∀ w v, C w → V j w v → v = .bool true) (hC : ∀ w w', G w w' → C w → C w') (hV : ∀ k v w w', C w → G w w' → V k w v → V k w' v) (h0 : C w.drew)
    (hops : Grows P Q G C V (l.take n) t df (l.take n) 0)
    (hend : ∀ f w', C w' → (∀ k, k < n → V k w' (f k)) → wpList P l.toArray Q (l.drop n) ⟨setAll (l.take n) 0 f t, df⟩ w') :
    (Code.region id l.toArray true).wp P Q ⟨t, df⟩ w := by
  refine wp_region_growg n hm sz hts hB G C V (fun i o j b hi hg w v hc hv => ?_) hC hV h0 hops hend
  have h1 := List.all_eq_true.1 hgs o (List.mem_of_getElem? hi)
  rw [hg] at h1
  simp only [Bool.and_eq_true, List.contains_iff_mem] at h1
  rw [h1.1]
  exact hgv j h1.2 w v hc hv
end
end Go.Proofs.YthcokaffbgbanaaDoor

/- The walk of OcbSeals. -/
namespace Go.Proofs.YthcokaffbgbanaaDoor
open Go.RowKit Go.BigFrame

set_option maxRecDepth 100000 in
theorem wp_unguard {P : Program} {op : Oper} {a : Act} {w : World} {K : Act → World → Prop} {Q : Exit → Act → World → Prop} (h : Oper.wp P { op with guard := none } a w K Q) : op.wp P a w K Q := h
set_option maxRecDepth 100000 in
theorem Gf.badE_is (n b : Nat) (s : Int) : Gf.badE n b s = Gf.fault n b s := rfl
set_option maxHeartbeats 1000000 in
theorem refSeal_bad (key : List UInt8) (an : Option Addr) (n cn : Nat) (ab : Option Addr) (b cb : Nat) (ap : Option Addr) (p cp : Nat) (hn : n ≤ maxLen) (hb : b ≤ maxLen) (w : World) (hf : Gf.fault n b (p : Int) ≠ 0) :
    Calls Tryd.prog 36 #[.agg (ag key), .slice an n cn, .slice ab b cb, .slice ap p cp] w fun e w' => e = .returned (.tuple #[.slice none 0 0, .int .i64 (Gf.fault n b (p : Int))]) ∧ Below w.heap.size w w' := by
  have hfa := fun w => bad_any an n cn ab b cb (p : Int) hn hb w
  simp only [Gf.badE_is] at hfa
  generalize Gf.fault n b (p : Int) = c at *
  unfold maxLen at hn hb
  have hc : (c == 0) = false := by rw [beq_eq_false_iff_ne]; exact hf
  go_enter Tryd.func36, Tryd.ntmps36
  go_wp2_with (first | (go_at_call 51; refine (hfa _).mono ?_; rintro e w1 ⟨rfl, rfl⟩) | fail)
  go_ret2
  exact ⟨rfl, (Below.refl _ _).alloc (Nat.le_refl _) _⟩
def Gf.slL (key ln lb lp : List UInt8) : List UInt8 := if Gf.fault ln.length lb.length (lp.length : Int) = 0 then Gf.sealed key ln lb lp else []
set_option maxRecDepth 100000 in
theorem fault_fits {n b : Nat} {s : Int} (h : Gf.fault n b s = 0) : 0 < n ∧ n ≤ 15 ∧ b ≤ 65536 ∧ s ≤ 65536 := by
  unfold Gf.fault at h
  by_cases h1 : n < 1 ∨ 15 < n
  · rw [if_pos h1] at h; omega
  · rw [if_neg h1] at h
    by_cases h2 : 65536 < s ∨ 65536 < b
    · rw [if_pos h2] at h; omega
    · omega
set_option maxRecDepth 100000 in
theorem noBts (w : World) : Bts (· < w.heap.size) w (.slice none 0 0) [] := ⟨none, 0, rfl, Nat.le_refl _, .inl rfl⟩
set_option maxRecDepth 100000 in
theorem seal_un (key : List UInt8) (hkey : key.length = 16) (vn vb vp : Value) (ln lb lp : List UInt8) (mn : ln.length ≤ maxLen) (mb : lb.length ≤ maxLen) (w : World) (ht : Tab w)
    (hn : Bts (· < w.heap.size) w vn ln) (hb : Bts (· < w.heap.size) w vb lb) (hp : Bts (· < w.heap.size) w vp lp) :
    Calls Tryd.prog 31 #[.agg (ag key), vn, vb, vp] w fun e w' => ∃ u, e = .returned (.tuple #[u, .int .i64 (Gf.fault ln.length lb.length (lp.length : Int))]) ∧ Bts (· < w'.heap.size) w' u (Gf.slL key ln lb lp) ∧ Below w.heap.size w w' := by
  have hnc := hn
  have hbc := hb
  have hpc := hp
  obtain ⟨an, cn, rfl, _, _⟩ := hnc
  obtain ⟨ab, cb, rfl, _, _⟩ := hbc
  obtain ⟨ap, cp, rfl, _, _⟩ := hpc
  by_cases hf : Gf.fault ln.length lb.length (lp.length : Int) = 0
  · obtain ⟨h1, h2, h3, h4⟩ := fault_fits hf
    rw [show Gf.slL key ln lb lp = Gf.sealed key ln lb lp from if_pos hf, hf]
    refine (seal_ok key hkey _ _ _ ln lb lp h1 h2 h3 (by omega) w ht hn hb hp).mono ?_
    rintro e w' ⟨g, rfl, hbu, hg, hbl⟩
    refine ⟨_, rfl, ?_, hbl⟩
    have lS := Gf.sealed_len key ln lb lp
    have := hbu.bts (S := (· < w'.heap.size)) ((World.ownsRow.lt hbu g rfl).2) (by omega)
    rw [lS] at this
    exact this
  · rw [show Gf.slL key ln lb lp = [] from if_neg hf]
    exact (seal_bad key an _ cn ab _ cb ap _ cp mn mb w hf).mono fun e w' h => ⟨_, h.1, noBts _, h.2⟩
set_option maxRecDepth 100000 in
theorem refSeal_un (key : List UInt8) (hkey : key.length = 16) (vn vb vp : Value) (ln lb lp : List UInt8) (mn : ln.length ≤ maxLen) (mb : lb.length ≤ maxLen) (w : World)
    (hn : Bts (· < w.heap.size) w vn ln) (hb : Bts (· < w.heap.size) w vb lb) (hp : Bts (· < w.heap.size) w vp lp) :
    Calls Tryd.prog 36 #[.agg (ag key), vn, vb, vp] w fun e w' => ∃ u, e = .returned (.tuple #[u, .int .i64 (Gf.fault ln.length lb.length (lp.length : Int))]) ∧ Bts (· < w'.heap.size) w' u (Gf.slL key ln lb lp) ∧ Below w.heap.size w w' := by
  have hnc := hn
  have hbc := hb
  have hpc := hp
  obtain ⟨an, cn, rfl, _, _⟩ := hnc
  obtain ⟨ab, cb, rfl, _, _⟩ := hbc
  obtain ⟨ap, cp, rfl, _, _⟩ := hpc
  by_cases hf : Gf.fault ln.length lb.length (lp.length : Int) = 0
  · obtain ⟨h1, h2, h3, h4⟩ := fault_fits hf
    rw [show Gf.slL key ln lb lp = Gf.sealed key ln lb lp from if_pos hf, hf]
    exact (refSeal_ok key hkey _ _ _ ln lb lp h1 h2 h3 (by omega) w hn hb hp).mono fun e w' ⟨v', h5, h6, h7⟩ => ⟨v', h5, h6.bts, h7⟩
  · rw [show Gf.slL key ln lb lp = [] from if_neg hf]
    exact (refSeal_bad key an _ cn ab _ cb ap _ cp mn mb w hf).mono fun e w' h => ⟨_, h.1, noBts _, h.2⟩

end Go.Proofs.YthcokaffbgbanaaDoor

/- The drawn region of Bytes, by itself. -/
namespace Go.Proofs.YthcokaffbgbanaaDoor
open Go.RowKit Go.BigFrame

theorem seal_own {M : Nat} {w' : World} {g n : Nat} {d : List UInt8} (hd : n + 16 = d.length) (h : Buf w' g (n + 16) d) (hg : M ≤ g) : Own M w' (.slice (some ⟨g, 0, none⟩) (n + 16) (n + 16)) d := by
  obtain ⟨h1, h2⟩ := h
  refine ⟨h1, ?_⟩
  rcases h2 with ⟨e, _⟩ | ⟨g', cap, cur, e1, _, e3⟩
  · cases e
  · simp only [Value.slice.injEq, Option.some.injEq, Addr.mk.injEq, and_true, true_and] at e1
    obtain ⟨rfl, rfl⟩ := e1
    exact .inr ⟨g, _, cur, by rw [hd], hg, e3⟩
set_option maxRecDepth 1000000 in
set_option maxHeartbeats 4000000 in
theorem sealReg (key P : List UInt8) (hkey : key.length = 16) (hP : P.length ≤ 65536) (H kb N : Nat) (w0 : World) (vp : Value) (u0 u1 u2 u4 u5 u6 u7 u10 u11 u12 u13 u14 u15 u16 u17 u18 u19 u20 u21 u22 u23 u24 u25 u26 u27 u28 u29 u30 u31 u32 u33 u34 u35 u36 u37 u38 u39 u40 u41 u42 u43 u44 u45 u46 u47 u48 u49 u50 u51 u52 u53 u54 u55 u56 u57 u58 u59 u60 u61 : Value) (w : World) (hN : N ≤ w0.heap.size) (hb0 : Below N w0 w) (ho : Own N w vp P) (hk : Row w kb 23 (ag key)) (hT : ∀ w1, Below N w0 w1 → Tab w1) :
    Code.wp Tryd.prog ((Tryd.f11.body.bind (regOf' 8)).getD .skip) (fun e a' w' => e = .normal ∧ ∃ v10 v11 v47 v48 v49 v50 v51 v52 v53 v54 : Value, a' = ⟨List.toArray (u0 :: u1 :: u2 :: .pointer (some ⟨kb, 0, none⟩) :: u4 :: u5 :: u6 :: u7 :: vp :: .int .u64 (H : Int) :: v10 :: v11 :: u12 :: u13 :: u14 :: u15 :: u16 :: u17 :: u18 :: u19 :: u20 :: u21 :: u22 :: u23 :: u24 :: u25 :: u26 :: u27 :: u28 :: u29 :: u30 :: u31 :: u32 :: u33 :: u34 :: u35 :: u36 :: u37 :: u38 :: u39 :: u40 :: u41 :: u42 :: u43 :: u44 :: u45 :: u46 :: v47 :: v48 :: v49 :: v50 :: v51 :: v52 :: v53 :: v54 :: u55 :: u56 :: u57 :: u58 :: u59 :: u60 :: u61 :: []), []⟩ ∧ Own N w' v10 (Gf.sealed key (Gf.nnc H) [] P) ∧ v11 = .int .i64 0 ∧ Below N w0 w') ⟨List.toArray (u0 :: u1 :: u2 :: .pointer (some ⟨kb, 0, none⟩) :: u4 :: u5 :: u6 :: u7 :: vp :: .int .u64 (H : Int) :: u10 :: u11 :: u12 :: u13 :: u14 :: u15 :: u16 :: u17 :: u18 :: u19 :: u20 :: u21 :: u22 :: u23 :: u24 :: u25 :: u26 :: u27 :: u28 :: u29 :: u30 :: u31 :: u32 :: u33 :: u34 :: u35 :: u36 :: u37 :: u38 :: u39 :: u40 :: u41 :: u42 :: u43 :: u44 :: u45 :: u46 :: u47 :: u48 :: u49 :: u50 :: u51 :: u52 :: u53 :: u54 :: u55 :: u56 :: u57 :: u58 :: u59 :: u60 :: u61 :: []), []⟩ w := by
  conv => arg 2; whnf
  have HNO := Box'.mk (nonceOf_any H)
  have HSL : Box' (P.length + 16 = (Gf.sealed key (Gf.nnc H) [] P).length) := ⟨(Gf.sealed_len _ _ _ _).symm⟩
  have HSE := Box'.mk (fun (vn : Value) (w1 : World) (h1 : Below N w0 w1) (h2 : Bts (· < w1.heap.size) w1 vn (Gf.nnc H)) (h3 : Bts (· < w1.heap.size) w1 vp P) =>
    seal_ok key hkey vn (.slice none 0 0) vp (Gf.nnc H) [] P (by rw [Gf.nnc_len]; omega) (by rw [Gf.nnc_len]; omega) (by simp) hP w1 (hT w1 h1) h2 (noBts w1) h3)
  refine wp_region_grow 9 (by kernel_rfl) (by kernel_rfl) (fun a b => Below a.heap.size a b) (fun w1 => Below N w0 w1 ∧ Own N w1 vp P ∧ Row w1 kb 23 (ag key)) (fun k w1 v => match k with
      | 0 => v = .agg (ag key)
      | 1 => v = .int .u64 (H : Int)
      | 2 => Own N w1 v (Gf.nnc H)
      | 3 => v = vp
      | 4 => ∃ u, v = .tuple #[u, .int .i64 0] ∧ Own N w1 u (Gf.sealed key (Gf.nnc H) [] P)
      | 5 => ∃ u, v = .tuple #[u, .int .i64 0] ∧ Own N w1 u (Gf.sealed key (Gf.nnc H) [] P)
      | 6 => Own N w1 v (Gf.sealed key (Gf.nnc H) [] P)
      | 7 => v = .int .i64 0
      | 8 => Own N w1 v (Gf.sealed key (Gf.nnc H) [] P)
      | _ => True) ?_ ?_ ?_ ?_ ?_
  · intro a b hb hC; exact ⟨hC.1.trans (hb.mono (Nat.le_trans hN hC.1.size)), hC.2.1.below hb, hC.2.2.below hb hC.2.2.lt⟩
  · intro k v w1 w2 hC1 hb h
    match k, h with
    | 0, h => exact h
    | 1, h => exact h
    | 2, h => exact Own.below h hb
    | 3, h => exact h
    | 4, h => exact Exists.elim h fun u hu => ⟨u, hu.1, Own.below hu.2 hb⟩
    | 5, h => exact Exists.elim h fun u hu => ⟨u, hu.1, Own.below hu.2 hb⟩
    | 6, h => exact Own.below h hb
    | 7, h => exact h
    | 8, h => exact Own.below h hb
    | k + 9, h => trivial
  · exact ⟨hb0.drew, ho, hk⟩
  · refine ⟨?_, ?_, ?_, ?_, ?_, ?_, ?_, ?_, ?_, trivial⟩
    · intro f w1 hC hd KK hK
      clear hd
      simp only [List.take_succ_cons, List.take_zero, setAll, List.setIfInBounds_toArray, List.set_cons_succ, List.set_cons_zero, Nat.zero_add, Nat.reduceAdd] at hK ⊢
      refine wp_load_row 23 _ rfl _ rfl _ _ (hC.2.2) _ Tryd.underlying23 rfl 16 Tryd.info23 (by rw [ag_size]; exact hkey) ?_
      exact hK _ _ rfl (Below.refl _ _)
    · intro f w1 hC hd KK hK
      clear hd
      simp only [List.take_succ_cons, List.take_zero, setAll, List.setIfInBounds_toArray, List.set_cons_succ, List.set_cons_zero, Nat.zero_add, Nat.reduceAdd] at hK ⊢
      refine wp_of_quiet rfl ?_
      go_big_quiet_step (fail)
      exact wpQuiet_nil (hK _ _ rfl (Below.refl _ _))
    · intro f w1 hC hd KK hK
      have g1 : f 1 = _ := hd 1 (by kernel_rfl)
      clear hd
      simp only [List.take_succ_cons, List.take_zero, setAll, List.setIfInBounds_toArray, List.set_cons_succ, List.set_cons_zero, Nat.zero_add, Nat.reduceAdd, g1] at hK ⊢
      refine wp_callE 32 #[.int .u64 (H : Int)] (by simp [go_sem]) (fun v w' => Own w1.heap.size w' v (Gf.nnc H) ∧ Below w1.heap.size w1 w') ?_ ?_
      · exact (HNO.out w1)
      · intro v w' hr
        exact hK _ _ (hr.1.less (Nat.le_trans hN hC.1.size)) hr.2
    · intro f w1 hC hd KK hK
      clear hd
      simp only [List.take_succ_cons, List.take_zero, setAll, List.setIfInBounds_toArray, List.set_cons_succ, List.set_cons_zero, Nat.zero_add, Nat.reduceAdd] at hK ⊢
      refine wp_of_quiet rfl ?_
      go_big_quiet_step (fail)
      exact wpQuiet_nil (hK _ _ rfl (Below.refl _ _))
    · intro f w1 hC hd KK hK
      have g0 : f 0 = _ := hd 0 (by kernel_rfl)
      have p2 : Own N w1 (f 2) (Gf.nnc H) := hd 2 (by kernel_rfl)
      have g3 : f 3 = _ := hd 3 (by kernel_rfl)
      clear hd
      simp only [List.take_succ_cons, List.take_zero, setAll, List.setIfInBounds_toArray, List.set_cons_succ, List.set_cons_zero, Nat.zero_add, Nat.reduceAdd, g0, g3] at hK ⊢
      refine wp_callE 31 #[.agg (ag key), f 2, .slice none 0 0, vp] (by simp [go_sem]) (fun v w' => (∃ u, v = .tuple #[u, .int .i64 0] ∧ Own w1.heap.size w' u (Gf.sealed key (Gf.nnc H) [] P)) ∧ Below w1.heap.size w1 w') ?_ ?_
      · exact ((HSE.out (f 2) w1 hC.1 p2.bts hC.2.1.bts).mono fun e w' h => by obtain ⟨g, rfl, h5, h6, h7⟩ := h; exact ⟨_, rfl, ⟨_, rfl, seal_own HSL.out h5 h6⟩, h7⟩)
      · intro v w' hr
        obtain ⟨⟨u, hu, ho⟩, hb⟩ := hr
        exact hK _ _ ⟨u, hu, ho.less (Nat.le_trans hN hC.1.size)⟩ hb
    · intro f w1 hC hd KK hK
      have x4 : ∃ u, (f 4) = .tuple #[u, .int .i64 0] ∧ Own N w1 u (Gf.sealed key (Gf.nnc H) [] P) := hd 4 (by kernel_rfl)
      clear hd
      cases x4 with | intro u4 y40 =>
      have g4 := y40.1
      have z40 := y40.2
      clear y40
      have p4 := z40
      clear z40
      simp only [List.take_succ_cons, List.take_zero, setAll, List.setIfInBounds_toArray, List.set_cons_succ, List.set_cons_zero, Nat.zero_add, Nat.reduceAdd, g4] at hK ⊢
      refine wp_of_quiet rfl ?_
      go_big_quiet_step (fail)
      exact wpQuiet_nil (hK _ _ ⟨u4, rfl, p4⟩ (Below.refl _ _))
    · intro f w1 hC hd KK hK
      have x5 : ∃ u, (f 5) = .tuple #[u, .int .i64 0] ∧ Own N w1 u (Gf.sealed key (Gf.nnc H) [] P) := hd 5 (by kernel_rfl)
      clear hd
      cases x5 with | intro u5 y50 =>
      have g5 := y50.1
      have z50 := y50.2
      clear y50
      have p5 := z50
      clear z50
      simp only [List.take_succ_cons, List.take_zero, setAll, List.setIfInBounds_toArray, List.set_cons_succ, List.set_cons_zero, Nat.zero_add, Nat.reduceAdd, g5] at hK ⊢
      refine wp_of_quiet rfl ?_
      go_big_quiet_step (fail)
      exact wpQuiet_nil (hK _ _ p5 (Below.refl _ _))
    · intro f w1 hC hd KK hK
      have x5 : ∃ u, (f 5) = .tuple #[u, .int .i64 0] ∧ Own N w1 u (Gf.sealed key (Gf.nnc H) [] P) := hd 5 (by kernel_rfl)
      clear hd
      cases x5 with | intro u5 y50 =>
      have g5 := y50.1
      have z50 := y50.2
      clear y50
      have p5 := z50
      clear z50
      simp only [List.take_succ_cons, List.take_zero, setAll, List.setIfInBounds_toArray, List.set_cons_succ, List.set_cons_zero, Nat.zero_add, Nat.reduceAdd, g5] at hK ⊢
      refine wp_of_quiet rfl ?_
      go_big_quiet_step (fail)
      exact wpQuiet_nil (hK _ _ rfl (Below.refl _ _))
    · intro f w1 hC hd KK hK
      have p6 : Own N w1 (f 6) (Gf.sealed key (Gf.nnc H) [] P) := hd 6 (by kernel_rfl)
      clear hd
      simp only [List.take_succ_cons, List.take_zero, setAll, List.setIfInBounds_toArray, List.set_cons_succ, List.set_cons_zero, Nat.zero_add, Nat.reduceAdd] at hK ⊢
      refine wp_of_quiet rfl ?_
      go_big_quiet_step (fail)
      exact wpQuiet_nil (hK _ _ p6 (Below.refl _ _))
  · intro f w1 hC hv
    have g0 : f 0 = _ := hv 0 (by decide)
    have g1 : f 1 = _ := hv 1 (by decide)
    have p2 : Own N w1 (f 2) (Gf.nnc H) := hv 2 (by decide)
    have g3 : f 3 = _ := hv 3 (by decide)
    have x4 : ∃ u, (f 4) = .tuple #[u, .int .i64 0] ∧ Own N w1 u (Gf.sealed key (Gf.nnc H) [] P) := hv 4 (by decide)
    have x5 : ∃ u, (f 5) = .tuple #[u, .int .i64 0] ∧ Own N w1 u (Gf.sealed key (Gf.nnc H) [] P) := hv 5 (by decide)
    have p6 : Own N w1 (f 6) (Gf.sealed key (Gf.nnc H) [] P) := hv 6 (by decide)
    have g7 : f 7 = _ := hv 7 (by decide)
    have p8 : Own N w1 (f 8) (Gf.sealed key (Gf.nnc H) [] P) := hv 8 (by decide)
    cases x4 with | intro u4 y40 =>
    have g4 := y40.1
    have z40 := y40.2
    clear y40
    have p4 := z40
    clear z40
    cases x5 with | intro u5 y50 =>
    have g5 := y50.1
    have z50 := y50.2
    clear y50
    have p5 := z50
    clear z50
    simp only [List.take_succ_cons, List.take_zero, List.drop_succ_cons, List.drop_zero, setAll, List.setIfInBounds_toArray, List.set_cons_succ, List.set_cons_zero, Nat.zero_add, Nat.reduceAdd, g0, g1, g3, g4, g5, g7]
    clear g0 g1 g3 g4 g5 g7 hv
    have q8 := hC.1
    go_wp2_with fail
end Go.Proofs.YthcokaffbgbanaaDoor

/- The walk of Bytes. -/
namespace Go.Proofs.YthcokaffbgbanaaDoor
open Go.RowKit Go.BigFrame
set_option linter.unusedVariables false

/-- A datagram as a value. -/
def dgv (q s e : Nat) (v : Value) : Array Value := #[.int .u64 (q : Int), .int .u16 (s : Int), .int .u16 (e : Int), v]
set_option maxRecDepth 100000 in
set_option maxHeartbeats 4000000 in
theorem bytes_bad (key : List UInt8) (hkey : key.length = 16) (f q s e : Nat) (vb : Value) (l : List UInt8) (hl : l.length ≤ maxLen) (w : World) (hb : InE w.heap.size w vb l) (hbad : ¬ ((f = 1 ∨ f = 2) ∧ q < 4611686018427387904 ∧ l.length ≤ 65000)) :
    Calls Tryd.prog 11 #[.agg (ag key), .int .u8 (f : Int), .agg (dgv q s e vb)] w fun r w' => r = .returned (.tuple #[.slice none 0 0, .int .i64 2]) ∧ Below w.heap.size w w' := by
  obtain ⟨a, c, rfl, hc⟩ := hb.slice
  clear hb
  generalize l.length = n at *
  unfold maxLen at hl
  have hS := fun w => isSide_any f w
  have hB : Box' (Below w.heap.size w ((w.alloc (.cells (ag key) 23)).alloc (.cells #[.int .u64 (q : Int), .int .u16 (s : Int), .int .u16 (e : Int), .slice a n c] 28))) := ⟨((Below.refl _ _).alloc (Nat.le_refl _) _).alloc (by simp) _⟩
  unfold dgv
  by_cases h1 : f = 1 ∨ f = 2
  · rw [decide_eq_true h1] at hS
    by_cases h2 : q < 4611686018427387904
    · have h3 : 65000 < n := by omega
      have h4 : decide ((4611686018427387904 : Int) ≤ (q : Int)) = false := decide_eq_false (by omega)
      have h6 : decide ((65000 : Int) < (n : Int)) = true := decide_eq_true (by omega)
      clear hbad h1 h2
      go_enter Tryd.func11, Tryd.ntmps11
      go_wp2_with (first | (go_at_call 28; refine (hS _).mono ?_; rintro e1 w1 ⟨rfl, rfl⟩) | fail)
      go_ret2
      exact ⟨rfl, hB.out⟩
    · have h4 : decide ((4611686018427387904 : Int) ≤ (q : Int)) = true := decide_eq_true (by omega)
      clear hbad h1 h2
      go_enter Tryd.func11, Tryd.ntmps11
      go_wp2_with (first | (go_at_call 28; refine (hS _).mono ?_; rintro e1 w1 ⟨rfl, rfl⟩) | fail)
      go_ret2
      exact ⟨rfl, hB.out⟩
  · rw [decide_eq_false h1] at hS
    clear h1 hbad
    go_enter Tryd.func11, Tryd.ntmps11
    go_wp2_with (first | (go_at_call 28; refine (hS _).mono ?_; rintro e1 w1 ⟨rfl, rfl⟩) | fail)
    go_ret2
    exact ⟨rfl, hB.out⟩

set_option maxRecDepth 100000 in
set_option maxHeartbeats 4000000 in
theorem bytes_ok (key : List UInt8) (hkey : key.length = 16) (f q s e : Nat) (hs : s < 65536) (he : e < 65536) (vb : Value) (l : List UInt8) (w : World) (ht : Tab w) (hb : InE w.heap.size w vb l) (h1 : f = 1 ∨ f = 2) (h2 : q < 4611686018427387904) (h3 : l.length ≤ 65000) :
    Calls Tryd.prog 11 #[.agg (ag key), .int .u8 (f : Int), .agg (dgv q s e vb)] w fun r w' => ∃ u, r = .returned (.tuple #[u, .int .i64 0]) ∧ Own w.heap.size w' u (Gf.dgB key f q s e l) ∧ Below w.heap.size w w' := by
  have hS := fun w => isSide_any f w
  rw [decide_eq_true h1] at hS
  have hH := fun w => headOf_any f q h2 w
  have hlt := ht.lt
  obtain ⟨a, c, rfl, hc⟩ := hb.slice
  have hB : Box' (Below w.heap.size w ((w.alloc (.cells (ag key) 23)).alloc (.cells #[.int .u64 (q : Int), .int .u16 (s : Int), .int .u16 (e : Int), .slice a l.length c] 28))) := ⟨((Below.refl _ _).alloc (Nat.le_refl _) _).alloc (by simp) _⟩
  have R0 : Box' (Row ((w.alloc (.cells (ag key) 23)).alloc (.cells #[.int .u64 (q : Int), .int .u16 (s : Int), .int .u16 (e : Int), .slice a l.length c] 28)) w.heap.size 23 (ag key)) := ⟨(Row.new _ _ _).alloc _⟩
  have R1 : Box' (Row ((w.alloc (.cells (ag key) 23)).alloc (.cells #[.int .u64 (q : Int), .int .u16 (s : Int), .int .u16 (e : Int), .slice a l.length c] 28)) (w.heap.size + 1) 28 #[.int .u64 (q : Int), .int .u16 (s : Int), .int .u16 (e : Int), .slice a l.length c]) := ⟨Row.made _ _ _ _ _ rfl (by simp)⟩
  unfold dgv
  have h4 : decide ((4611686018427387904 : Int) ≤ (q : Int)) = false := decide_eq_false (by omega)
  have h5 : decide ((65000 : Int) < (l.length : Int)) = false := decide_eq_false (by omega)
  have H2 := Box'.mk h2
  have H3 := Box'.mk h3
  have HB := Box'.mk hb
  have HH := Box'.mk hH
  clear h2 hb hH h1
  obtain ⟨n, hn⟩ : ∃ n, l.length = n := ⟨_, rfl⟩
  have HN := Box'.mk hn
  rw [hn] at h3 h5 hB R0 R1 HB hc ⊢
  clear hn
  go_enter Tryd.func11, Tryd.ntmps11
  go_upto_region 3 with (first | (go_at_call 28; refine (hS _).mono ?_; rintro e1 w1 ⟨rfl, rfl⟩) | fail)
  have hz0 : ((w.alloc (.cells (ag key) 23)).alloc (.cells #[.int .u64 (q : Int), .int .u16 (s : Int), .int .u16 (e : Int), .slice a n c] 28)).heap.size = w.heap.size + 1 + 1 := by simp
  obtain ⟨W0, hW0⟩ : ∃ W0, (w.alloc (.cells (ag key) 23)).alloc (.cells #[.int .u64 (q : Int), .int .u16 (s : Int), .int .u16 (e : Int), .slice a n c] 28) = W0 := ⟨_, rfl⟩
  rw [hW0] at hB R0 R1 hz0 ⊢
  clear hW0 hS h4 h5
  have cb : W0.cell? ⟨w.heap.size + 1, 3, none⟩ = some (.slice a n c) := R1.out.cell 3
  have cs : W0.cell? ⟨w.heap.size + 1, 1, none⟩ = some (.int .u16 (s : Int)) := R1.out.cell 1
  go_upto_region 4 with (first | (refine wpList_make_nc rfl _ _ rfl _ _ 0 (4 + n) rfl rfl rfl (by omega) (by omega) (by omega) W0.heap.size (Nat.le_refl _) ?_; intro v1 w1 e1 e2 o1; have b1 : Below W0.heap.size W0 w1 := (by rw [e2]; exact (Below.refl _ _).alloc (Nat.le_refl _) _); clear e1 e2) | fail)
  clear cb cs
  have r1 := R1.out.below b1 (by omega)
  have cs : w1.cell? ⟨w.heap.size + 1, 1, none⟩ = some (.int .u16 (s : Int)) := r1.cell 1
  have HA := Box'.mk (appTime_any W0.heap.size w1 v1 [] s hs b1.size o1 (by simp))
  clear r1 o1
  go_wp2_with fail
  refine HA.out.mono ?_
  rintro r w2 ⟨v2, rfl, o2, f2⟩
  have b2 := b1.trans (f2.below b1.size)
  clear HA cs f2 b1
  have r2 := R1.out.below b2 (by omega)
  have ce : w2.cell? ⟨w.heap.size + 1, 2, none⟩ = some (.int .u16 (e : Int)) := r2.cell 2
  have HA := Box'.mk (appTime_any W0.heap.size w2 v2 _ e he b2.size o2 (by simp))
  clear r2 o2
  go_wp2_with fail
  refine HA.out.mono ?_
  rintro r w3 ⟨v3, rfl, o3, f3⟩
  have b3 := b2.trans (f3.below b2.size)
  clear HA ce f3 b2
  have r3 := R1.out.below b3 (by omega)
  have cb : w3.cell? ⟨w.heap.size + 1, 3, none⟩ = some (.slice a n c) := r3.cell 3
  have hB3 : Below w.heap.size w w3 := hB.out.trans (b3.mono (by omega))
  have o3' : Own W0.heap.size w3 v3 (Gf.tms s e) := o3
  have HI := Box'.mk (HB.out.below hB3 (Nat.le_refl _))
  have HO := Box'.mk o3'
  have HM : Box' ((Gf.tms s e).length + l.length ≤ 140737488355328) := ⟨by rw [Gf.tms_len, HN.out]; omega⟩
  have hN3 := b3.size
  clear o3 o3' r3
  go_upto_region 7 with (first | (refine wpList_appE rfl (.tmp 39) (.tmp 41) rfl W0.heap.size w.heap.size hN3 _ (Gf.tms s e) rfl HO.out _ l rfl HI.out HM.out ?_; intro v4 w4 o4 f4) | fail)
  have b4 := b3.trans (f4.below hN3)
  clear cb hB3 HI HO HM hN3 b3 f4
  have r4 := R1.out.below b4 (by omega)
  have cq : w4.cell? ⟨w.heap.size + 1, 0, none⟩ = some (.int .u64 (q : Int)) := r4.cell 0
  go_upto_region 8 with (first | (go_at_call 30; refine (HH.out _).mono ?_; rintro r w5 ⟨rfl, rfl⟩) | fail)
  clear r4 cq HH
  have HD : Box' (Gf.dgB key f q s e l = Gf.be8 (Gf.hdN f q) ++ Gf.sealed key (Gf.nnc (Gf.hdN f q)) [] (Gf.tms s e ++ l)) := ⟨rfl⟩
  have hpl : (Gf.tms s e ++ l).length = n + 4 := by rw [List.length_append, Gf.tms_len, HN.out]; omega
  generalize Gf.hdN f q = H at *
  generalize Gf.tms s e ++ l = P at *
  have HW : Box' (∀ w1, Below W0.heap.size W0 w1 → Tab w1) := ⟨fun w1 h => ht.below (hB.out.trans (h.mono (by omega))) hlt⟩
  refine wp_mono (sealReg key P hkey (by omega) H w.heap.size W0.heap.size W0 v4 _ _ _ _ _ _ _ _ _ _ _ _ _ _ _ _ _ _ _ _ _ _ _ _ _ _ _ _ _ _ _ _ _ _ _ _ _ _ _ _ _ _ _ _ _ _ _ _ _ _ _ _ _ _ _ _ _ _ _ _ (Nat.le_refl _) b4 o4 (R0.out.below b4 (by omega)) HW.out) ?_
  rintro r a' w6 ⟨rfl, v10, v11, v47, v48, v49, v50, v51, v52, v53, v54, rfl, o6, rfl, b6⟩
  have HA := Box'.mk (appHead_any w6.heap.size w6 (.slice none 0 0) [] H (Nat.le_refl _) (Own.nil _ _) (by simp))
  have HO6 := Box'.mk o6
  have HM : Box' ((Gf.be8 H).length + (Gf.sealed key (Gf.nnc H) [] P).length ≤ 140737488355328) := ⟨by rw [Gf.be8_len, Gf.sealed_len]; omega⟩
  clear o6 b4 o4 HW
  go_wp2_with fail
  refine HA.out.mono ?_
  rintro r w7 ⟨v7, rfl, o7, f7⟩
  clear HA
  have hb67 := f7.below (Nat.le_refl _)
  have HI := Box'.mk ((HO6.out.below hb67).inB.inE)
  have HO7 : Box' (Own w6.heap.size w7 v7 (Gf.be8 H)) := ⟨o7⟩
  have hn7 := hb67.size
  clear o7 f7
  go_wp2_with (first | (refine wpList_appE rfl (.tmp 59) (.tmp 60) rfl w6.heap.size _ hn7 _ (Gf.be8 H) rfl HO7.out _ (Gf.sealed key (Gf.nnc H) [] P) rfl HI.out HM.out ?_; intro v8 w8 o8 f8) | fail)
  go_ret2
  refine ⟨_, rfl, ?_, ?_⟩
  · rw [HD.out]
    exact o8.less (by have := b6.size; omega)
  · exact hB.out.trans ((b6.mono (by omega)).trans ((hb67.mono (by have := b6.size; omega)).trans ((f8.below hn7).mono (by have := b6.size; omega))))
theorem bytes_any (key : List UInt8) (hkey : key.length = 16) (f q s e : Nat) (hs : s < 65536) (he : e < 65536) (vb : Value) (l : List UInt8) (hl : l.length ≤ maxLen) (w : World) (ht : Tab w) (hb : InE w.heap.size w vb l) :
    Calls Tryd.prog 11 #[.agg (ag key), .int .u8 (f : Int), .agg (dgv q s e vb)] w fun r w' => ∃ u, r = .returned (.tuple #[u, .int .i64 (Gf.byE f q l.length)]) ∧ Own w.heap.size w' u (Gf.byL key f q s e l) ∧ Below w.heap.size w w' := by
  by_cases h : (f = 1 ∨ f = 2) ∧ q < 4611686018427387904 ∧ l.length ≤ 65000
  · have e0 : Gf.byE f q l.length = 0 := if_pos h
    have e1 : Gf.byL key f q s e l = Gf.dgB key f q s e l := if_pos e0
    rw [e0, e1]
    exact bytes_ok key hkey f q s e hs he vb l w ht hb h.1 h.2.1 h.2.2
  · have e0 : Gf.byE f q l.length = 2 := if_neg h
    have e1 : Gf.byL key f q s e l = [] := if_neg (by rw [e0]; decide)
    rw [e0, e1]
    exact (bytes_bad key hkey f q s e vb l hl w hb h).mono fun r w' h => ⟨_, h.1, Own.nil _ _, h.2⟩
end Go.Proofs.YthcokaffbgbanaaDoor

/- The drawn region of Next, by itself. -/
namespace Go.Proofs.YthcokaffbgbanaaDoor
open Go.RowKit Go.BigFrame

set_option maxRecDepth 1000000 in
set_option maxHeartbeats 4000000 in
theorem nextReg (key D : List UInt8) (hk : key.length = 16) (p fr n st ec N : Nat) (va : Option Addr) (vn vc : Nat) (w0 : World) (u4 u5 u6 u7 u8 u9 u10 u11 u12 u13 u14 u15 u16 u17 u18 u19 u20 u21 u22 u23 u24 u25 u26 u27 u28 u29 u30 u31 u32 u33 u34 u35 u36 u37 u38 u39 u40 u41 u42 u43 u44 u45 u46 u47 u48 u49 u50 u51 u52 u53 u54 : Value) (w : World) (hN : N ≤ w0.heap.size) (hb0 : Below N w0 w) (hr : Row w p 92 (slO key fr n)) (hBY : ∀ w1, Below N w0 w1 → Calls Tryd.prog 11 #[.agg (ag key), .int .u8 (fr : Int), .agg (dgv n st ec (.slice va vn vc))] w1 fun r w' => ∃ u, r = .returned (.tuple #[u, .int .i64 0]) ∧ Own w1.heap.size w' u D ∧ Below w1.heap.size w1 w') :
    Code.wp Tryd.prog ((Tryd.f21.body.bind (regOf' 7)).getD .skip) (fun e a' w' => e = .normal ∧ ∃ v8 v9 v24 v25 v26 v27 v28 v29 v30 v31 v32 v33 v34 v35 v36 v37 v38 v39 v40 v41 v42 v43 : Value, a' = ⟨List.toArray (.pointer (some ⟨p, 0, none⟩) :: .int .u16 (st : Int) :: .int .u16 (ec : Int) :: .slice va vn vc :: u4 :: u5 :: u6 :: u7 :: v8 :: v9 :: u10 :: u11 :: u12 :: u13 :: u14 :: u15 :: u16 :: u17 :: u18 :: u19 :: u20 :: u21 :: u22 :: u23 :: v24 :: v25 :: v26 :: v27 :: v28 :: v29 :: v30 :: v31 :: v32 :: v33 :: v34 :: v35 :: v36 :: v37 :: v38 :: v39 :: v40 :: v41 :: v42 :: v43 :: u44 :: u45 :: u46 :: u47 :: u48 :: u49 :: u50 :: u51 :: u52 :: u53 :: u54 :: []), []⟩ ∧ Own N w' v8 D ∧ v9 = .int .i64 0 ∧ Below N w0 w') ⟨List.toArray (.pointer (some ⟨p, 0, none⟩) :: .int .u16 (st : Int) :: .int .u16 (ec : Int) :: .slice va vn vc :: u4 :: u5 :: u6 :: u7 :: u8 :: u9 :: u10 :: u11 :: u12 :: u13 :: u14 :: u15 :: u16 :: u17 :: u18 :: u19 :: u20 :: u21 :: u22 :: u23 :: u24 :: u25 :: u26 :: u27 :: u28 :: u29 :: u30 :: u31 :: u32 :: u33 :: u34 :: u35 :: u36 :: u37 :: u38 :: u39 :: u40 :: u41 :: u42 :: u43 :: u44 :: u45 :: u46 :: u47 :: u48 :: u49 :: u50 :: u51 :: u52 :: u53 :: u54 :: []), []⟩ w := by
  conv => arg 2; whnf
  have HBY := Box'.mk hBY
  refine wp_region_grow 21 (by kernel_rfl) (by kernel_rfl) (fun a b => Below a.heap.size a b) (fun w1 => Below N w0 w1 ∧ Row w1 p 92 (slO key fr n)) (fun k w1 v => match k with
      | 0 => v = .pointer (some ⟨p, 0, none⟩)
      | 1 => v = .pointer (some ⟨p, 0, none⟩)
      | 2 => v = .pointer (some ⟨p, 0, none⟩)
      | 3 => v = .agg (ag key)
      | 4 => v = .pointer (some ⟨p, 0, none⟩)
      | 5 => v = .pointer (some ⟨p, 0, none⟩)
      | 6 => v = .pointer (some ⟨p, 16, none⟩)
      | 7 => v = .int .u8 (fr : Int)
      | 8 => v = .pointer (some ⟨p, 0, none⟩)
      | 9 => v = .pointer (some ⟨p, 0, none⟩)
      | 10 => v = .pointer (some ⟨p, 17, none⟩)
      | 11 => v = .int .u64 (n : Int)
      | 12 => v = .int .u16 (st : Int)
      | 13 => v = .int .u16 (ec : Int)
      | 14 => v = .slice va vn vc
      | 15 => v = .agg (dgv n st ec (.slice va vn vc))
      | 16 => ∃ u, v = .tuple #[u, .int .i64 0] ∧ Own N w1 u D
      | 17 => ∃ u, v = .tuple #[u, .int .i64 0] ∧ Own N w1 u D
      | 18 => Own N w1 v D
      | 19 => v = .int .i64 0
      | 20 => Own N w1 v D
      | _ => True) ?_ ?_ ?_ ?_ ?_
  · intro a b' hb hC; exact ⟨hC.1.trans (hb.mono (Nat.le_trans hN hC.1.size)), hC.2.below hb hC.2.lt⟩
  · intro k v w1 w2 hC1 hb h
    match k, h with
    | 0, h => exact h
    | 1, h => exact h
    | 2, h => exact h
    | 3, h => exact h
    | 4, h => exact h
    | 5, h => exact h
    | 6, h => exact h
    | 7, h => exact h
    | 8, h => exact h
    | 9, h => exact h
    | 10, h => exact h
    | 11, h => exact h
    | 12, h => exact h
    | 13, h => exact h
    | 14, h => exact h
    | 15, h => exact h
    | 16, h => exact Exists.elim h fun u hu => ⟨u, hu.1, Own.below hu.2 hb⟩
    | 17, h => exact Exists.elim h fun u hu => ⟨u, hu.1, Own.below hu.2 hb⟩
    | 18, h => exact Own.below h hb
    | 19, h => exact h
    | 20, h => exact Own.below h hb
    | k + 21, h => trivial
  · exact ⟨hb0.drew, hr⟩
  · refine ⟨?_, ?_, ?_, ?_, ?_, ?_, ?_, ?_, ?_, ?_, ?_, ?_, ?_, ?_, ?_, ?_, ?_, ?_, ?_, ?_, ?_, trivial⟩
    · intro f w1 hC hd KK hK
      clear hd
      simp only [List.take_succ_cons, List.take_zero, setAll, List.setIfInBounds_toArray, List.set_cons_succ, List.set_cons_zero, Nat.zero_add, Nat.reduceAdd] at hK ⊢
      refine wp_of_quiet rfl ?_
      go_big_quiet_step (fail)
      exact wpQuiet_nil (hK _ _ rfl (Below.refl _ _))
    · intro f w1 hC hd KK hK
      have g0 : f 0 = _ := hd 0 (by kernel_rfl)
      clear hd
      simp only [List.take_succ_cons, List.take_zero, setAll, List.setIfInBounds_toArray, List.set_cons_succ, List.set_cons_zero, Nat.zero_add, Nat.reduceAdd, g0] at hK ⊢
      refine wp_of_quiet rfl ?_
      go_big_quiet_step (fail)
      exact wpQuiet_nil (hK _ _ rfl (Below.refl _ _))
    · intro f w1 hC hd KK hK
      have g1 : f 1 = _ := hd 1 (by kernel_rfl)
      clear hd
      simp only [List.take_succ_cons, List.take_zero, setAll, List.setIfInBounds_toArray, List.set_cons_succ, List.set_cons_zero, Nat.zero_add, Nat.reduceAdd, g1] at hK ⊢
      refine wp_of_quiet rfl ?_
      go_big_quiet_step (fail)
      exact wpQuiet_nil (hK _ _ rfl (Below.refl _ _))
    · intro f w1 hC hd KK hK
      have g2 : f 2 = _ := hd 2 (by kernel_rfl)
      clear hd
      simp only [List.take_succ_cons, List.take_zero, setAll, List.setIfInBounds_toArray, List.set_cons_succ, List.set_cons_zero, Nat.zero_add, Nat.reduceAdd, g2] at hK ⊢
      refine wp_load_mid 23 _ rfl _ _ rfl _ (key_range hC.2) _ Tryd.underlying23 rfl 16 Tryd.info23 hk ?_
      exact hK _ _ rfl (Below.refl _ _)
    · intro f w1 hC hd KK hK
      clear hd
      simp only [List.take_succ_cons, List.take_zero, setAll, List.setIfInBounds_toArray, List.set_cons_succ, List.set_cons_zero, Nat.zero_add, Nat.reduceAdd] at hK ⊢
      refine wp_of_quiet rfl ?_
      go_big_quiet_step (fail)
      exact wpQuiet_nil (hK _ _ rfl (Below.refl _ _))
    · intro f w1 hC hd KK hK
      have g4 : f 4 = _ := hd 4 (by kernel_rfl)
      clear hd
      simp only [List.take_succ_cons, List.take_zero, setAll, List.setIfInBounds_toArray, List.set_cons_succ, List.set_cons_zero, Nat.zero_add, Nat.reduceAdd, g4] at hK ⊢
      refine wp_of_quiet rfl ?_
      go_big_quiet_step (fail)
      exact wpQuiet_nil (hK _ _ rfl (Below.refl _ _))
    · intro f w1 hC hd KK hK
      have g5 : f 5 = _ := hd 5 (by kernel_rfl)
      clear hd
      simp only [List.take_succ_cons, List.take_zero, setAll, List.setIfInBounds_toArray, List.set_cons_succ, List.set_cons_zero, Nat.zero_add, Nat.reduceAdd, g5] at hK ⊢
      refine wp_of_quiet rfl ?_
      go_big_quiet_step (fail)
      exact wpQuiet_nil (hK _ _ rfl (Below.refl _ _))
    · intro f w1 hC hd KK hK
      have g6 : f 6 = _ := hd 6 (by kernel_rfl)
      clear hd
      simp only [List.take_succ_cons, List.take_zero, setAll, List.setIfInBounds_toArray, List.set_cons_succ, List.set_cons_zero, Nat.zero_add, Nat.reduceAdd, g6] at hK ⊢
      have cc : w1.cell? ⟨p, 16, none⟩ = some (.int .u8 (fr : Int)) := by rw [hC.2.cell]; exact slO_16 hk fr n
      refine wp_of_quiet rfl ?_
      go_big_quiet_step (fail)
      exact wpQuiet_nil (hK _ _ rfl (Below.refl _ _))
    · intro f w1 hC hd KK hK
      clear hd
      simp only [List.take_succ_cons, List.take_zero, setAll, List.setIfInBounds_toArray, List.set_cons_succ, List.set_cons_zero, Nat.zero_add, Nat.reduceAdd] at hK ⊢
      refine wp_of_quiet rfl ?_
      go_big_quiet_step (fail)
      exact wpQuiet_nil (hK _ _ rfl (Below.refl _ _))
    · intro f w1 hC hd KK hK
      have g8 : f 8 = _ := hd 8 (by kernel_rfl)
      clear hd
      simp only [List.take_succ_cons, List.take_zero, setAll, List.setIfInBounds_toArray, List.set_cons_succ, List.set_cons_zero, Nat.zero_add, Nat.reduceAdd, g8] at hK ⊢
      refine wp_of_quiet rfl ?_
      go_big_quiet_step (fail)
      exact wpQuiet_nil (hK _ _ rfl (Below.refl _ _))
    · intro f w1 hC hd KK hK
      have g9 : f 9 = _ := hd 9 (by kernel_rfl)
      clear hd
      simp only [List.take_succ_cons, List.take_zero, setAll, List.setIfInBounds_toArray, List.set_cons_succ, List.set_cons_zero, Nat.zero_add, Nat.reduceAdd, g9] at hK ⊢
      refine wp_of_quiet rfl ?_
      go_big_quiet_step (fail)
      exact wpQuiet_nil (hK _ _ rfl (Below.refl _ _))
    · intro f w1 hC hd KK hK
      have g10 : f 10 = _ := hd 10 (by kernel_rfl)
      clear hd
      simp only [List.take_succ_cons, List.take_zero, setAll, List.setIfInBounds_toArray, List.set_cons_succ, List.set_cons_zero, Nat.zero_add, Nat.reduceAdd, g10] at hK ⊢
      have cc : w1.cell? ⟨p, 17, none⟩ = some (.int .u64 (n : Int)) := by rw [hC.2.cell]; exact slO_17 hk fr n
      refine wp_of_quiet rfl ?_
      go_big_quiet_step (fail)
      exact wpQuiet_nil (hK _ _ rfl (Below.refl _ _))
    · intro f w1 hC hd KK hK
      clear hd
      simp only [List.take_succ_cons, List.take_zero, setAll, List.setIfInBounds_toArray, List.set_cons_succ, List.set_cons_zero, Nat.zero_add, Nat.reduceAdd] at hK ⊢
      refine wp_of_quiet rfl ?_
      go_big_quiet_step (fail)
      exact wpQuiet_nil (hK _ _ rfl (Below.refl _ _))
    · intro f w1 hC hd KK hK
      clear hd
      simp only [List.take_succ_cons, List.take_zero, setAll, List.setIfInBounds_toArray, List.set_cons_succ, List.set_cons_zero, Nat.zero_add, Nat.reduceAdd] at hK ⊢
      refine wp_of_quiet rfl ?_
      go_big_quiet_step (fail)
      exact wpQuiet_nil (hK _ _ rfl (Below.refl _ _))
    · intro f w1 hC hd KK hK
      clear hd
      simp only [List.take_succ_cons, List.take_zero, setAll, List.setIfInBounds_toArray, List.set_cons_succ, List.set_cons_zero, Nat.zero_add, Nat.reduceAdd] at hK ⊢
      refine wp_of_quiet rfl ?_
      go_big_quiet_step (fail)
      exact wpQuiet_nil (hK _ _ rfl (Below.refl _ _))
    · intro f w1 hC hd KK hK
      have g11 : f 11 = _ := hd 11 (by kernel_rfl)
      have g12 : f 12 = _ := hd 12 (by kernel_rfl)
      have g13 : f 13 = _ := hd 13 (by kernel_rfl)
      have g14 : f 14 = _ := hd 14 (by kernel_rfl)
      clear hd
      simp only [List.take_succ_cons, List.take_zero, setAll, List.setIfInBounds_toArray, List.set_cons_succ, List.set_cons_zero, Nat.zero_add, Nat.reduceAdd, g11, g12, g13, g14] at hK ⊢
      refine wp_of_quiet rfl ?_
      go_big_quiet_step (fail)
      exact wpQuiet_nil (hK _ _ rfl (Below.refl _ _))
    · intro f w1 hC hd KK hK
      have g3 : f 3 = _ := hd 3 (by kernel_rfl)
      have g7 : f 7 = _ := hd 7 (by kernel_rfl)
      have g15 : f 15 = _ := hd 15 (by kernel_rfl)
      clear hd
      simp only [List.take_succ_cons, List.take_zero, setAll, List.setIfInBounds_toArray, List.set_cons_succ, List.set_cons_zero, Nat.zero_add, Nat.reduceAdd, g3, g7, g15] at hK ⊢
      refine wp_callE 11 #[.agg (ag key), .int .u8 (fr : Int), .agg (dgv n st ec (.slice va vn vc))] (by simp [go_sem]) (fun v w' => (∃ u, v = .tuple #[u, .int .i64 0] ∧ Own w1.heap.size w' u D) ∧ Below w1.heap.size w1 w') ?_ ?_
      · exact ((HBY.out w1 hC.1).mono fun e w' h => by obtain ⟨u, rfl, h1, h2⟩ := h; exact ⟨_, rfl, ⟨u, rfl, h1⟩, h2⟩)
      · intro v w' hr
        obtain ⟨⟨u, hu, ho⟩, hb⟩ := hr
        exact hK _ _ ⟨u, hu, ho.less (Nat.le_trans hN hC.1.size)⟩ hb
    · intro f w1 hC hd KK hK
      have x16 : ∃ u, (f 16) = .tuple #[u, .int .i64 0] ∧ Own N w1 u D := hd 16 (by kernel_rfl)
      clear hd
      cases x16 with | intro u16 y160 =>
      have g16 := y160.1
      have z160 := y160.2
      clear y160
      have p16 := z160
      clear z160
      simp only [List.take_succ_cons, List.take_zero, setAll, List.setIfInBounds_toArray, List.set_cons_succ, List.set_cons_zero, Nat.zero_add, Nat.reduceAdd, g16] at hK ⊢
      refine wp_of_quiet rfl ?_
      go_big_quiet_step (fail)
      exact wpQuiet_nil (hK _ _ ⟨u16, rfl, p16⟩ (Below.refl _ _))
    · intro f w1 hC hd KK hK
      have x17 : ∃ u, (f 17) = .tuple #[u, .int .i64 0] ∧ Own N w1 u D := hd 17 (by kernel_rfl)
      clear hd
      cases x17 with | intro u17 y170 =>
      have g17 := y170.1
      have z170 := y170.2
      clear y170
      have p17 := z170
      clear z170
      simp only [List.take_succ_cons, List.take_zero, setAll, List.setIfInBounds_toArray, List.set_cons_succ, List.set_cons_zero, Nat.zero_add, Nat.reduceAdd, g17] at hK ⊢
      refine wp_of_quiet rfl ?_
      go_big_quiet_step (fail)
      exact wpQuiet_nil (hK _ _ p17 (Below.refl _ _))
    · intro f w1 hC hd KK hK
      have x17 : ∃ u, (f 17) = .tuple #[u, .int .i64 0] ∧ Own N w1 u D := hd 17 (by kernel_rfl)
      clear hd
      cases x17 with | intro u17 y170 =>
      have g17 := y170.1
      have z170 := y170.2
      clear y170
      have p17 := z170
      clear z170
      simp only [List.take_succ_cons, List.take_zero, setAll, List.setIfInBounds_toArray, List.set_cons_succ, List.set_cons_zero, Nat.zero_add, Nat.reduceAdd, g17] at hK ⊢
      refine wp_of_quiet rfl ?_
      go_big_quiet_step (fail)
      exact wpQuiet_nil (hK _ _ rfl (Below.refl _ _))
    · intro f w1 hC hd KK hK
      have p18 : Own N w1 (f 18) D := hd 18 (by kernel_rfl)
      clear hd
      simp only [List.take_succ_cons, List.take_zero, setAll, List.setIfInBounds_toArray, List.set_cons_succ, List.set_cons_zero, Nat.zero_add, Nat.reduceAdd] at hK ⊢
      refine wp_of_quiet rfl ?_
      go_big_quiet_step (fail)
      exact wpQuiet_nil (hK _ _ p18 (Below.refl _ _))
  · intro f w1 hC hv
    have g0 : f 0 = _ := hv 0 (by decide)
    have g1 : f 1 = _ := hv 1 (by decide)
    have g2 : f 2 = _ := hv 2 (by decide)
    have g3 : f 3 = _ := hv 3 (by decide)
    have g4 : f 4 = _ := hv 4 (by decide)
    have g5 : f 5 = _ := hv 5 (by decide)
    have g6 : f 6 = _ := hv 6 (by decide)
    have g7 : f 7 = _ := hv 7 (by decide)
    have g8 : f 8 = _ := hv 8 (by decide)
    have g9 : f 9 = _ := hv 9 (by decide)
    have g10 : f 10 = _ := hv 10 (by decide)
    have g11 : f 11 = _ := hv 11 (by decide)
    have g12 : f 12 = _ := hv 12 (by decide)
    have g13 : f 13 = _ := hv 13 (by decide)
    have g14 : f 14 = _ := hv 14 (by decide)
    have g15 : f 15 = _ := hv 15 (by decide)
    have x16 : ∃ u, (f 16) = .tuple #[u, .int .i64 0] ∧ Own N w1 u D := hv 16 (by decide)
    have x17 : ∃ u, (f 17) = .tuple #[u, .int .i64 0] ∧ Own N w1 u D := hv 17 (by decide)
    have p18 : Own N w1 (f 18) D := hv 18 (by decide)
    have g19 : f 19 = _ := hv 19 (by decide)
    have p20 : Own N w1 (f 20) D := hv 20 (by decide)
    cases x16 with | intro u16 y160 =>
    have g16 := y160.1
    have z160 := y160.2
    clear y160
    have p16 := z160
    clear z160
    cases x17 with | intro u17 y170 =>
    have g17 := y170.1
    have z170 := y170.2
    clear y170
    have p17 := z170
    clear z170
    simp only [List.take_succ_cons, List.take_zero, List.drop_succ_cons, List.drop_zero, setAll, List.setIfInBounds_toArray, List.set_cons_succ, List.set_cons_zero, Nat.zero_add, Nat.reduceAdd, g0, g1, g2, g3, g4, g5, g6, g7, g8, g9, g10, g11, g12, g13, g14, g15, g16, g17, g19]
    clear g0 g1 g2 g3 g4 g5 g6 g7 g8 g9 g10 g11 g12 g13 g14 g15 g16 g17 g19 hv
    have q8 := hC.1
    go_wp2_with fail
end Go.Proofs.YthcokaffbgbanaaDoor

/- The walk of Next. -/
namespace Go.Proofs.YthcokaffbgbanaaDoor
open Go.RowKit Go.BigFrame
set_option linter.unusedVariables false

/-- All blocks but one stay. -/
structure Bt (p : Nat) (w w' : World) : Prop where
  os : w'.os = w.os
  tape : w'.tape = w.tape
  output : w'.output = w.output
  size : w.heap.size ≤ w'.heap.size
  block : ∀ k, k < w.heap.size → k ≠ p → w'.heap[k]? = w.heap[k]?
theorem Bt.of {p : Nat} {w w' : World} (h : Below w.heap.size w w') : Bt p w w' := ⟨h.os, h.tape, h.output, h.size, fun k hk _ => h.block k hk⟩
theorem Bt.trans {p : Nat} {a b c : World} (h : Bt p a b) (k : Bt p b c) : Bt p a c := ⟨k.os.trans h.os, k.tape.trans h.tape, k.output.trans h.output, Nat.le_trans h.size k.size, fun i hi hp => (k.block i (Nat.lt_of_lt_of_le hi h.size) hp).trans (h.block i hi hp)⟩
theorem Bt.below {p N : Nat} {w w' : World} (h : Bt p w w') (hp : N ≤ p) (hN : N ≤ w.heap.size) : Below N w w' := ⟨h.os, h.tape, h.output, h.size, fun k hk => h.block k (by omega) (by omega)⟩
theorem Bt.row {p : Nat} {w w' : World} (h : Bt p w w') {b : Nat} {t : TypeId} {c : Array Value} (hr : Row w b t c) (hb : b ≠ p) : Row w' b t c := hr.same (h.block b hr.lt hb)
theorem Bt.setCell {p : Nat} {w w' : World} (h : Bt p w w') (k : Nat) (v : Value) : Bt p w (w'.setCell ⟨p, k, none⟩ v) := by
  have hb : Below p w' (w'.setCell ⟨p, k, none⟩ v) := (Below.refl p w').setCell (p := ⟨p, k, none⟩) (Nat.le_refl p) v
  refine ⟨hb.os.trans h.os, hb.tape.trans h.tape, hb.output.trans h.output, Nat.le_trans h.size hb.size, fun i hi hp => ?_⟩
  rw [← h.block i hi hp]
  exact Go.Deep.blk_setCell_other _ _ _ _ hp
theorem slO_size {key : List UInt8} (hk : key.length = 16) (f n : Nat) : (slO key f n).size = 18 := by unfold slO; rw [Array.size_append, ag_size, hk]; rfl
theorem slO_next {key : List UInt8} (hk : key.length = 16) (f n m : Nat) : (slO key f n).setIfInBounds 17 (.int .u64 (m : Int)) = slO key f m := by
  obtain ⟨k0, k1, k2, k3, k4, k5, k6, k7, k8, k9, k10, k11, k12, k13, k14, k15, rfl⟩ := list16 key hk
  rfl
def Gf.nxE (n m : Nat) : Int := if 65000 < m then 2 else if 4611686018427387904 ≤ n then 80 else 0
def Gf.nxN (n m : Nat) : Nat := if Gf.nxE n m = 0 then n + 1 else n
def Gf.nxL (key : List UInt8) (f n s e : Nat) (l : List UInt8) : List UInt8 := if Gf.nxE n l.length = 0 then Gf.dgB key f n s e l else []
theorem next_nil (s e : Nat) (vb : Value) (w : World) : Calls Tryd.prog 21 #[.pointer none, .int .u16 (s : Int), .int .u16 (e : Int), vb] w fun r w' => r = .returned (.tuple #[.slice none 0 0, .int .i64 1]) ∧ w' = w := by
  have hT := sThere_nil w
  go_enter Tryd.func21, Tryd.ntmps21
  go_wp2_with (first | (go_at_call 43; refine hT.mono ?_; rintro e1 w1 ⟨rfl, rfl⟩) | fail)
  go_ret2
  exact ⟨rfl, rfl⟩
set_option maxRecDepth 100000 in
set_option maxHeartbeats 2000000 in
theorem next_bad (p : Nat) (key : List UInt8) (hk : key.length = 16) (f n : Nat) (hf : f = 1 ∨ f = 2) (s e : Nat) (a : Option Addr) (m c : Nat) (w : World) (h : Row w p 92 (slO key f n)) (hE : Gf.nxE n m ≠ 0) :
    Calls Tryd.prog 21 #[.pointer (some ⟨p, 0, none⟩), .int .u16 (s : Int), .int .u16 (e : Int), .slice a m c] w fun r w' => r = .returned (.tuple #[.slice none 0 0, .int .i64 (Gf.nxE n m)]) ∧ w' = w := by
  have hT := sThere_any p key hk f n w h
  rw [decide_eq_true hf] at hT
  have c17 : w.cell? ⟨p, 17, none⟩ = some (.int .u64 (n : Int)) := by rw [h.cell]; exact slO_17 hk f n
  clear h
  by_cases h1 : 65000 < m
  · have e0 : Gf.nxE n m = 2 := if_pos h1
    rw [e0]
    have d1 : decide ((65000 : Int) < (m : Int)) = true := decide_eq_true (by omega)
    clear e0 hE h1
    go_enter Tryd.func21, Tryd.ntmps21
    go_wp2_with (first | (go_at_call 43; refine hT.mono ?_; rintro e1 w1 ⟨rfl, rfl⟩) | fail)
    go_ret2
    exact ⟨rfl, rfl⟩
  · by_cases h2 : 4611686018427387904 ≤ n
    · have e0 : Gf.nxE n m = 80 := by unfold Gf.nxE; rw [if_neg h1, if_pos h2]
      rw [e0]
      have d1 : decide ((65000 : Int) < (m : Int)) = false := decide_eq_false (by omega)
      have d2 : decide ((4611686018427387904 : Int) ≤ (n : Int)) = true := decide_eq_true (by omega)
      clear e0 hE h1 h2
      go_enter Tryd.func21, Tryd.ntmps21
      go_wp2_with (first | (go_at_call 43; refine hT.mono ?_; rintro e1 w1 ⟨rfl, rfl⟩) | fail)
      go_ret2
      exact ⟨rfl, rfl⟩
    · exact absurd (by unfold Gf.nxE; rw [if_neg h1, if_neg h2]) hE
set_option maxRecDepth 100000 in
set_option maxHeartbeats 2000000 in
theorem next_ok (p : Nat) (key : List UInt8) (hk : key.length = 16) (f n : Nat) (hf : f = 1 ∨ f = 2) (hn : n < 4611686018427387904) (s e : Nat) (hs : s < 65536) (he : e < 65536) (vb : Value) (l : List UInt8) (hl : l.length ≤ 65000) (w : World) (ht : Tab w) (hp1 : 1 < p) (h : Row w p 92 (slO key f n)) (hb : InE w.heap.size w vb l) :
    Calls Tryd.prog 21 #[.pointer (some ⟨p, 0, none⟩), .int .u16 (s : Int), .int .u16 (e : Int), vb] w fun r w' => ∃ u, r = .returned (.tuple #[u, .int .i64 0]) ∧ Own w.heap.size w' u (Gf.dgB key f n s e l) ∧ Row w' p 92 (slO key f (n + 1)) ∧ Bt p w w' := by
  have hT := sThere_any p key hk f n w h
  rw [decide_eq_true hf] at hT
  have c17 : w.cell? ⟨p, 17, none⟩ = some (.int .u64 (n : Int)) := by rw [h.cell]; exact slO_17 hk f n
  have d1 : decide ((65000 : Int) < (l.length : Int)) = false := decide_eq_false (by omega)
  have d2 : decide ((4611686018427387904 : Int) ≤ (n : Int)) = false := decide_eq_false (by omega)
  obtain ⟨a, c, rfl, hc⟩ := hb.slice
  have HB := Box'.mk hb
  have HR := Box'.mk h
  clear hb h
  go_enter Tryd.func21, Tryd.ntmps21
  have hlt := ht.lt
  have hBY := fun (w1 : World) (hw : Below w.heap.size w w1) => bytes_ok key hk f n s e hs he (.slice a l.length c) l w1 (ht.below hw hlt) ((HB.out.below hw (Nat.le_refl _)).up hw.size) hf hn hl
  have HBY := Box'.mk hBY
  clear hBY
  go_upto_region 7 with (first | (go_at_call 43; refine hT.mono ?_; rintro e1 w1 ⟨rfl, rfl⟩) | fail)
  refine wp_mono (nextReg key (Gf.dgB key f n s e l) hk p f n s e w1.heap.size a l.length c w1 _ _ _ _ _ _ _ _ _ _ _ _ _ _ _ _ _ _ _ _ _ _ _ _ _ _ _ _ _ _ _ _ _ _ _ _ _ _ _ _ _ _ _ _ _ _ _ _ _ _ _ _ (Nat.le_refl _) (Below.refl _ _) HR.out HBY.out) ?_
  rintro r a' w2 ⟨rfl, v8, v9, v24, v25, v26, v27, v28, v29, v30, v31, v32, v33, v34, v35, v36, v37, v38, v39, v40, v41, v42, v43, rfl, o2, rfl, b2⟩
  clear HBY c17
  have r2 : Row w2 p 92 (slO key f n) := HR.out.below b2 HR.out.lt
  have c17 : w2.cell? ⟨p, 17, none⟩ = some (.int .u64 (n : Int)) := by rw [r2.cell]; exact slO_17 hk f n
  have f17 := r2.frozen 17
  have HO := Box'.mk o2
  clear o2
  go_wp2_with fail
  go_ret2
  have e1 : ((n : Int) + 1) = ((n + 1 : Nat) : Int) := by omega
  rw [e1]
  exact ⟨_, rfl, HO.out.setCell (n := 18) ⟨_, r2, slO_size hk f n⟩ (by decide) _ _, by rw [← slO_next hk f n (n + 1)]; exact r2.setCell 17 _, (Bt.of b2).setCell 17 _⟩
theorem next_any (p : Nat) (key : List UInt8) (hk : key.length = 16) (f n : Nat) (hf : f = 1 ∨ f = 2) (s e : Nat) (hs : s < 65536) (he : e < 65536) (vb : Value) (l : List UInt8) (w : World) (ht : Tab w) (hp1 : 1 < p) (h : Row w p 92 (slO key f n)) (hb : InE w.heap.size w vb l) :
    Calls Tryd.prog 21 #[.pointer (some ⟨p, 0, none⟩), .int .u16 (s : Int), .int .u16 (e : Int), vb] w fun r w' => ∃ u, r = .returned (.tuple #[u, .int .i64 (Gf.nxE n l.length)]) ∧ Own w.heap.size w' u (Gf.nxL key f n s e l) ∧ Row w' p 92 (slO key f (Gf.nxN n l.length)) ∧ Bt p w w' := by
  by_cases hE : Gf.nxE n l.length = 0
  · have e1 : Gf.nxL key f n s e l = Gf.dgB key f n s e l := if_pos hE
    have e2 : Gf.nxN n l.length = n + 1 := if_pos hE
    obtain ⟨h1, h2⟩ : l.length ≤ 65000 ∧ n < 4611686018427387904 := by
      unfold Gf.nxE at hE
      split at hE
      · omega
      · split at hE
        · omega
        · omega
    rw [hE, e1, e2]
    exact next_ok p key hk f n hf h2 s e hs he vb l h1 w ht hp1 h hb
  · have e1 : Gf.nxL key f n s e l = [] := if_neg hE
    have e2 : Gf.nxN n l.length = n := if_neg hE
    rw [e1, e2]
    obtain ⟨a, c, rfl, hc⟩ := hb.slice
    refine (next_bad p key hk f n hf s e a l.length c w h hE).mono ?_
    rintro r w' ⟨rfl, rfl⟩
    exact ⟨_, rfl, Own.nil _ _, h, Bt.of (Below.refl _ _)⟩
end Go.Proofs.YthcokaffbgbanaaDoor

/- The walk of Datagram: its errors ahead of the opening. -/
namespace Go.Proofs.YthcokaffbgbanaaDoor
open Go.RowKit Go.BigFrame
set_option linter.unusedVariables false

theorem Tryd.size28 : (Tryd.prog.info? 28).map (·.size) = some 4 := by kernel_rfl
/-- The datagram that is none, with an error. -/
def dg0 (e : Int) : Value := .tuple #[.agg #[.int .u64 0, .int .u16 0, .int .u16 0, .slice none 0 0], .int .i64 e]
set_option maxRecDepth 100000 in
set_option maxHeartbeats 2000000 in
theorem dgram_early (key : List UInt8) (f : Nat) (hf : f < 256) (vb : Value) (l : List UInt8) (hl : l.length ≤ maxLen) (w : World) (hb : Bts (· < w.heap.size) w vb l)
    (hE : ¬ ((f = 1 ∨ f = 2) ∧ 28 ≤ l.length ∧ Gf.sdN (Gf.numTo l 0 8) = f ∧ Gf.sqN (Gf.numTo l 0 8) < 4611686018427387904 ∧ l.length ≤ 65028)) :
    Calls Tryd.prog 13 #[.agg (ag key), .int .u8 (f : Int), vb] w fun r w' => r = .returned (dg0 (Gf.dgE key f l)) ∧ Below w.heap.size w w' := by
  have hS := fun w => isSide_any f w
  have hB : Box' (Below w.heap.size w ((w.alloc (.cells (ag key) 23)).alloc (.cells #[.int .u64 0, .int .u16 0, .int .u16 0, .slice none 0 0] 28))) := ⟨((Below.refl _ _).alloc (Nat.le_refl _) _).alloc (by simp) _⟩
  have HW : Box' (Row ((w.alloc (.cells (ag key) 23)).alloc (.cells #[.int .u64 0, .int .u16 0, .int .u16 0, .slice none 0 0] 28)) (w.heap.size + 1) 28 #[.int .u64 0, .int .u16 0, .int .u16 0, .slice none 0 0]) := ⟨Row.made _ _ _ _ _ rfl (by simp)⟩
  have hbc := hb
  obtain ⟨a, c, rfl, hc, hr⟩ := hbc
  unfold maxLen at hl
  unfold dg0
  by_cases h1 : f = 1 ∨ f = 2
  · rw [decide_eq_true h1] at hS
    by_cases h2 : l.length < 28
    · have e0 : Gf.dgE key f l = 7 := by unfold Gf.dgE; rw [if_pos h1, if_pos h2]
      rw [e0]
      have d2 : decide ((l.length : Int) < 28) = true := decide_eq_true (by omega)
      clear hE e0 h1 hr hb h2 hc
      generalize l.length = n at *
      go_enter Tryd.func13, Tryd.ntmps13
      go_wp2_with (first | (go_at_call 28; refine (hS _).mono ?_; rintro e1 w1 ⟨rfl, rfl⟩) | fail)
      exact bodyPost_ret (results_row_slot Tryd.results13 _ (w.heap.size + 1) rfl _ rfl _ _ HW.out _ Tryd.underlying28 rfl 4 Tryd.size28 rfl) rfl ⟨rfl, hB.out⟩
    · have d2 : decide ((l.length : Int) < 28) = false := decide_eq_false (by omega)
      rcases hr with rfl | ⟨b, o, rfl, hbl, hr⟩
      · simp at h2
      have hrz : (w.alloc (.cells (ag key) 23)).rangeAt b o (l.map B) := range_below hr ((Below.refl w.heap.size w).alloc (Nat.le_refl _) _) hbl
      have hr1 : (fun w2 : World => w2.rangeAt b o (l.map B)) ((w.alloc (.cells (ag key) 23)).alloc (.cells #[.int .u64 0, .int .u16 0, .int .u16 0, .slice none 0 0] 28)) := range_below hrz ((Below.refl (w.heap.size + 1) _).alloc (by simp) _) (by omega)
      have hH := Box'.mk (fun (w1 : World) (h : w1.rangeAt b o (l.map B)) => readHead_any b o c l.length l w1 rfl (by omega) hc h)
      have hD := Box'.mk (fun (w1 : World) => sideOf_any (Gf.numTo l 0 8) w1)
      have hQ := Box'.mk (fun (w1 : World) => seqOf_any (Gf.numTo l 0 8) (Gf.numTo_lt8 l 0) w1)
      have HR := Box'.mk hr1
      by_cases h3 : Gf.sdN (Gf.numTo l 0 8) = f
      · have d3 : (((Gf.sdN (Gf.numTo l 0 8) : Nat) : Int) != (f : Int)) = false := by rw [h3]; simp
        have e0 : Gf.dgE key f l = 8 := by
          unfold Gf.dgE
          rw [if_pos h1, if_neg h2, if_pos h3, if_pos (by omega)]
        rw [e0]
        by_cases h4 : 4611686018427387904 ≤ Gf.sqN (Gf.numTo l 0 8)
        · have d4 : decide ((4611686018427387904 : Int) ≤ ((Gf.sqN (Gf.numTo l 0 8) : Nat) : Int)) = true := decide_eq_true (by omega)
          clear hE e0 h1 hr hb h2 hrz hr1 hc h3 h4
          generalize Gf.sqN (Gf.numTo l 0 8) = sq at *
          generalize Gf.sdN (Gf.numTo l 0 8) = sd at *
          generalize Gf.numTo l 0 8 = H at *
          generalize l.length = n at *
          go_enter Tryd.func13, Tryd.ntmps13
          go_wp2_with (first | (go_at_call 28; refine (hS _).mono ?_; rintro e1 w1 ⟨rfl, rfl⟩) | (go_at_call 37; refine (hH.out _ HR.out).mono ?_; rintro e2 w2 ⟨rfl, rfl⟩) | (go_at_call 38; refine (hD.out _).mono ?_; rintro e3 w3 ⟨rfl, rfl⟩) | (go_at_call 39; refine (hQ.out _).mono ?_; rintro e4 w4 ⟨rfl, rfl⟩) | fail)
          exact bodyPost_ret (results_row_slot Tryd.results13 _ (w.heap.size + 1) rfl _ rfl _ _ HW.out _ Tryd.underlying28 rfl 4 Tryd.size28 rfl) rfl ⟨rfl, hB.out⟩
        · have d4 : decide ((4611686018427387904 : Int) ≤ ((Gf.sqN (Gf.numTo l 0 8) : Nat) : Int)) = false := decide_eq_false (by omega)
          have d5 : decide ((65028 : Int) < (l.length : Int)) = true := decide_eq_true (by omega)
          clear hE e0 h1 hr hb h2 hrz hr1 hc h3 h4
          generalize Gf.sqN (Gf.numTo l 0 8) = sq at *
          generalize Gf.sdN (Gf.numTo l 0 8) = sd at *
          generalize Gf.numTo l 0 8 = H at *
          generalize l.length = n at *
          go_enter Tryd.func13, Tryd.ntmps13
          go_wp2_with (first | (go_at_call 28; refine (hS _).mono ?_; rintro e1 w1 ⟨rfl, rfl⟩) | (go_at_call 37; refine (hH.out _ HR.out).mono ?_; rintro e2 w2 ⟨rfl, rfl⟩) | (go_at_call 38; refine (hD.out _).mono ?_; rintro e3 w3 ⟨rfl, rfl⟩) | (go_at_call 39; refine (hQ.out _).mono ?_; rintro e4 w4 ⟨rfl, rfl⟩) | fail)
          exact bodyPost_ret (results_row_slot Tryd.results13 _ (w.heap.size + 1) rfl _ rfl _ _ HW.out _ Tryd.underlying28 rfl 4 Tryd.size28 rfl) rfl ⟨rfl, hB.out⟩
      · have d3 : (((Gf.sdN (Gf.numTo l 0 8) : Nat) : Int) != (f : Int)) = true := by rw [bne_iff_ne]; omega
        have e0 : Gf.dgE key f l = 82 := by
          unfold Gf.dgE
          rw [if_pos h1, if_neg h2, if_neg h3]
        rw [e0]
        clear hE e0 h1 hr hb h2 hrz hr1 hc h3 hQ
        generalize Gf.sdN (Gf.numTo l 0 8) = sd at *
        generalize Gf.numTo l 0 8 = H at *
        generalize l.length = n at *
        go_enter Tryd.func13, Tryd.ntmps13
        go_wp2_with (first | (go_at_call 28; refine (hS _).mono ?_; rintro e1 w1 ⟨rfl, rfl⟩) | (go_at_call 37; refine (hH.out _ HR.out).mono ?_; rintro e2 w2 ⟨rfl, rfl⟩) | (go_at_call 38; refine (hD.out _).mono ?_; rintro e3 w3 ⟨rfl, rfl⟩) | fail)
        exact bodyPost_ret (results_row_slot Tryd.results13 _ (w.heap.size + 1) rfl _ rfl _ _ HW.out _ Tryd.underlying28 rfl 4 Tryd.size28 rfl) rfl ⟨rfl, hB.out⟩
  · have e0 : Gf.dgE key f l = 2 := by unfold Gf.dgE; rw [if_neg h1]
    rw [e0]
    rw [decide_eq_false h1] at hS
    clear hE e0 h1 hr hb hc
    generalize l.length = n at *
    go_enter Tryd.func13, Tryd.ntmps13
    go_wp2_with (first | (go_at_call 28; refine (hS _).mono ?_; rintro e1 w1 ⟨rfl, rfl⟩) | fail)
    exact bodyPost_ret (results_row_slot Tryd.results13 _ (w.heap.size + 1) rfl _ rfl _ _ HW.out _ Tryd.underlying28 rfl 4 Tryd.size28 rfl) rfl ⟨rfl, hB.out⟩
end Go.Proofs.YthcokaffbgbanaaDoor
