/- The reference's cipher with its L's: how it lies in memory, how it is built. -/
import Derived.Test.YtfipijcnihpaiaaDoorRc
import Derived.Test.YtfipijcnihpaiaaDoorRe
import Derived.Test.YtfipijcnihpaiaaDoorOg
namespace Go.Proofs.YtfipijcnihpaiaaDoor
open Go.RowKit Go.BigFrame

def els (a : Value) (K s c : List UInt8) : Array Value := cip a K ++ ag s ++ ag c
theorem els_size (a : Value) (K s c : List UInt8) (hK : K.length = 176) (hs : s.length = 16) (hc : c.length = 16) : (els a K s c).size = 209 := by
  rw [els, Array.size_append, Array.size_append, cip_size, ag_size, ag_size, hK, hs, hc]
theorem els_get (a : Value) (K s c : List UInt8) (hK : K.length = 176) (hs : s.length = 16) (j : Nat) : (els a K s c)[j]? = if j < 177 then (cip a K)[j]? else if j < 193 then (ag s)[j - 177]? else (ag c)[j - 193]? := by
  have h1 : (cip a K).size = 177 := by rw [cip_size, hK]
  have h2 : (ag s).size = 16 := by rw [ag_size, hs]
  unfold els
  by_cases a1 : j < 177
  · rw [if_pos a1, Array.getElem?_append_left (by rw [Array.size_append]; omega), Array.getElem?_append_left (by omega)]
  · rw [if_neg a1]
    by_cases a2 : j < 193
    · rw [if_pos a2, Array.getElem?_append_left (by rw [Array.size_append]; omega), Array.getElem?_append_right (by omega), h1]
    · rw [if_neg a2, Array.getElem?_append_right (by rw [Array.size_append]; omega), Array.size_append, h1, h2]
theorem els_one (a : Option Addr) (K s c : List UInt8) : (els (.pointer a) K s c).all (·.oneCell') = true := by
  rw [Array.all_eq_true_iff_forall_mem]; intro v hv
  simp only [els, Array.mem_append] at hv
  rcases hv with (hv | hv) | hv
  · exact Array.all_eq_true_iff_forall_mem.1 (cip_one a K) v hv
  · exact Array.all_eq_true_iff_forall_mem.1 (ag_one s) v hv
  · exact Array.all_eq_true_iff_forall_mem.1 (ag_one c) v hv
theorem Tryd.zero54 : (Tryd.prog.info? 54).map (fun i => (i.zero, i.size)) = some (some (.agg (els (.pointer none) (Gf.zeros 176) (Gf.zeros 16) (Gf.zeros 16))), 209) := by kernel_rfl
theorem Tryd.info54 : (Tryd.prog.info? 54).map (·.size) = some 209 := by kernel_rfl

theorem fold_ag (off : Nat) (c z : Array Value) (j : Nat) : (Array.foldl (fun cs (x : Value × Nat) => cs.setIfInBounds (off + x.snd) x.fst) z c.zipIdx)[j]? = if off ≤ j ∧ j < off + c.size ∧ j < z.size then c[j - off]? else z[j]? := by
  obtain ⟨l⟩ := c
  have e : Array.foldl (fun cs (x : Value × Nat) => cs.setIfInBounds (off + x.snd) x.fst) z (⟨l⟩ : Array Value).zipIdx = (l.zipIdx 0).foldl (fun cs (p : Value × Nat) => cs.setIfInBounds (off + p.2) p.1) z := by simp
  rw [e, fold_get]
  simp
theorem fold_size (off : Nat) (c z : Array Value) : (Array.foldl (fun cs (x : Value × Nat) => cs.setIfInBounds (off + x.snd) x.fst) z c.zipIdx).size = z.size := by
  obtain ⟨l⟩ := c
  have e : Array.foldl (fun cs (x : Value × Nat) => cs.setIfInBounds (off + x.snd) x.fst) z (⟨l⟩ : Array Value).zipIdx = (l.zipIdx 0).foldl (fun cs (p : Value × Nat) => cs.setIfInBounds (off + p.2) p.1) z := by simp
  rw [e]
  clear e
  generalize l.zipIdx 0 = q
  induction q generalizing z with
  | nil => rfl
  | cons x q ih => rw [List.foldl_cons, ih]; simp
theorem run_build54 (w : World) (a : Value) (K s c : List UInt8) (hK : K.length = 176) (hs : s.length = 16) (hc : c.length = 16) :
    (Instr.build 54 #[(0, .agg (cip a K)), (1, .agg (ag s)), (2, .agg (ag c))]).run Tryd.prog w = .ok (.agg (els a K s c)) w := by
  have hz := (zero_of_info Tryd.zero54).1
  have s52 : ∀ w, (sizeOf 52).run Tryd.prog w = .ok 177 w := fun w => run_sizeOf w 52 177 Tryd.info52
  have s23 : ∀ w, (sizeOf 23).run Tryd.prog w = .ok 16 w := fun w => run_sizeOf w 23 16 Tryd.info23
  have hcs : (cip a K).size = 177 := by rw [cip_size, hK]
  have hss : (ag s).size = 16 := by rw [ag_size, hs]
  have hcc : (ag c).size = 16 := by rw [ag_size, hc]
  have hzs : (els (.pointer none) (Gf.zeros 176) (Gf.zeros 16) (Gf.zeros 16)).size = 209 := els_size _ _ _ _ (List.length_replicate) rfl rfl
  have hf : Instr.fill (fun x => ([(0, 177), (177, 16), (193, 16)] : List (Nat × Nat))[x]?) (Value.agg (els (.pointer none) (Gf.zeros 176) (Gf.zeros 16) (Gf.zeros 16))).cells [(0, Value.agg (cip a K)), (1, Value.agg (ag s)), (2, Value.agg (ag c))] = some (els a K s c) := by
    simp only [Instr.fill, Value.cells, List.getElem?_cons_zero, List.getElem?_cons_succ, hcs, hss, hcc, hzs]
    simp only [fold_size, hzs]
    rw [if_neg (by decide), if_neg (by decide), if_neg (by decide)]
    refine congrArg some ?_
    apply Array.ext_getElem?
    intro j
    simp only [fold_ag, fold_size, hzs, hcs, hss, hcc]
    simp only [Nat.zero_add, Nat.reduceAdd, Nat.sub_zero]
    rw [els_get a K s c hK hs]
    by_cases h1 : j < 177
    · rw [if_neg (by omega), if_neg (by omega), if_pos (by omega), if_pos h1]
    · by_cases h2 : j < 193
      · rw [if_neg (by omega), if_pos (by omega), if_neg h1, if_pos h2]
      · rw [if_neg h1, if_neg h2]
        by_cases h3 : j < 209
        · rw [if_pos (by omega)]
        · rw [if_neg (by omega), if_neg (by omega), if_neg (by omega), Array.getElem?_eq_none (by omega), Array.getElem?_eq_none (by omega)]
  unfold Instr.build
  simp only [Sem.run_bind, hz, Result.andThen_ok, run_underlying Tryd.underlying54]
  simp [s52, s23, hf]
end Go.Proofs.YtfipijcnihpaiaaDoor
