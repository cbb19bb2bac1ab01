/- What came in: a key with a nonce and bytes beside; bytes; the library's table. -/
import Derived.Test.YtmolhljgmaoflaaDoorRows
import Derived.Test.YtmolhljgmaoflaaDoorOt
import Derived.ProofKit
import Derived.LaidMore
import Derived.OpenShut
import Derived.Stop.Joined
import Derived.Lib.LaidTab
import Derived.ChangeSlices
import Derived.ChangeArms
import Derived.ChangeOld
import Derived.Stop.LaidErr
namespace Go.Proofs.YtmolhljgmaoflaaDoor
open Go.ChangeShapes Go.WideShapes Go.ChangeAt Go.RowKit

def byteIn : Value → UInt8
  | .int _ n => UInt8.ofNat n.toNat
  | _ => 0
theorem byteIn_of {W : World} {base : Nat} {v : Value} (h : Cell.okWide Tryd.prog W .any base 5 v) : v = B (byteIn v) := by
  unfold Cell.okWide at h
  rw [Tryd.underlying5] at h
  cases v <;> simp only [Cell.ok, Tryd.underlying5] at h
  case int k n =>
    obtain ⟨rfl, hn⟩ := h
    have hb : 0 ≤ n ∧ n ≤ 255 := by
      unfold IntKind.has at hn
      simpa [IntKind.min, IntKind.max, IntKind.bits, IntKind.signed] using hn
    unfold byteIn B
    rw [UInt8.toNat_ofNat_of_lt' (by show n.toNat < 256; omega)]
    congr 1
    omega
theorem Tryd.cells5 : Tryd.prog.cellsOf 5 = 1 := by kernel_rfl
theorem Tryd.cells24 : Tryd.prog.cellsOf 24 = 1 := by kernel_rfl
theorem Tryd.cells26 : Tryd.prog.cellsOf 26 = 18 := by kernel_rfl
theorem Tryd.types26 : Tryd.prog.cellTypes Tryd.prog.depth 26 = some (List.replicate 16 5 ++ [24, 24]) := by kernel_rfl

/-- A slice of bytes that came in. -/
theorem open_bytes {H : Type} {enc : TypeId × Value → H} {W : World} {base : Nat} {v : Value} {fuel : Nat} {x : DataW H × List MemPlace} (hok : Cell.okWide Tryd.prog W .any base 24 v) (h : DataW.trod enc Tryd.prog W 0 (fun _ => true) true fuel 24 [v] = some x) :
    ∃ l, Bts (· < W.heap.size) W v l ∧ l.length ≤ maxLen := by
  rcases open_ints Tryd.underlying24 Tryd.underlying5 Tryd.cells5 h with ⟨e, _⟩ | ⟨a, len, cap, zs, e, _, hlc, hcm, hzl, _, hcell, hwf⟩
  · simp only [List.cons.injEq, and_true] at e
    subst e
    exact ⟨[], ⟨none, 0, rfl, Nat.le_refl _, .inl rfl⟩, Nat.zero_le _⟩
  · simp only [List.cons.injEq, and_true] at e
    subst e
    simp only [if_true] at hzl
    have hsp : a.spot = none := by
      unfold Cell.okWide at hok
      rw [Tryd.underlying24] at hok
      simp only [Cell.ok, Tryd.underlying24] at hok
      exact hok.2.2.2.1
    obtain ⟨b, o, sp⟩ := a
    simp only at hsp
    subst hsp
    have hlen : ((zs.take len).map fun z => UInt8.ofNat z.toNat).length = len := by rw [List.length_map, List.length_take]; omega
    refine ⟨(zs.take len).map fun z => UInt8.ofNat z.toNat, ⟨_, _, by rw [hlen], by rw [hlen]; exact hlc, ?_⟩, by rw [hlen]; omega⟩
    by_cases h0 : len = 0
    · left
      apply List.eq_nil_of_length_eq_zero
      rw [hlen]; exact h0
    · right
      have hr : W.rangeAt b o (((zs.take len).map fun z => UInt8.ofNat z.toNat).map B) := by
        intro j u hu
        have hj : j < len := by
          have := (List.getElem?_eq_some_iff.1 hu).1
          rw [List.length_map, hlen] at this
          exact this
        have hc := hcell j (by omega)
        rw [Addr.add_mid] at hc
        rw [hc]
        have hzj : j < zs.length := by omega
        have hz : zs.getD j 0 = zs[j] := by simp [hzj]
        have hw := hwf zs[j] (List.getElem_mem hzj)
        have hb : 0 ≤ zs[j] ∧ zs[j] ≤ 255 := by
          simp only [Lit.wf] at hw
          simpa [IntKind.min, IntKind.max, IntKind.bits, IntKind.signed] using hw
        simp only [List.getElem?_map, List.getElem?_take_of_lt hj, List.getElem?_eq_getElem hzj, Option.map_some, Option.some.injEq] at hu
        rw [← hu, hz]
        unfold B
        rw [UInt8.toNat_ofNat_of_lt' (by show zs[j].toNat < 256; omega)]
        congr 2
        omega
      exact ⟨b, o, rfl, range_lt hr (by rw [hlen]; omega), hr⟩

/-- A key with a nonce and bytes beside that came in. -/
theorem open_case {H : Type} {enc : TypeId × Value → H} {W : World} {base : Nat} {v : Value} {fuel : Nat} {x : DataW H × List MemPlace} (hok : Value.okWide Tryd.prog W .any base 26 v) (h : DataW.trod enc Tryd.prog W 0 (fun _ => true) true fuel 26 v.cells.toList = some x) :
    ∃ key vn vb ln lb, v = .agg (cas key vn vb) ∧ key.length = 16 ∧ Bts (· < W.heap.size) W vn ln ∧ ln.length ≤ maxLen ∧ Bts (· < W.heap.size) W vb lb ∧ lb.length ≤ maxLen := by
  unfold Value.okWide at hok
  rw [Tryd.underlying26] at hok
  obtain ⟨cs, rfl, hsz, ts, hts, _, hall⟩ := hok
  rw [Tryd.cells26] at hsz
  rw [Tryd.types26] at hts
  simp only [Option.some.injEq] at hts
  subst hts
  obtain ⟨xs, n, _, _, hl, hxl, hf⟩ := DataW.trod_struct Tryd.underlying26 h
  have hl3 : xs.length = 3 := hxl
  have hcell : ∀ i (hi : i < 18), cs[i]? = some (cs[i]'(by omega)) := fun i hi => Array.getElem?_eq_getElem (by omega)
  have h1 : DataW.trod enc Tryd.prog W 0 (fun _ => true) true n 24 ((cs.toList.drop 16).take (Tryd.prog.cellsOf 24)) = xs[1]? := hf 1 _ rfl
  have h2 : DataW.trod enc Tryd.prog W 0 (fun _ => true) true n 24 ((cs.toList.drop 17).take (Tryd.prog.cellsOf 24)) = xs[2]? := hf 2 _ rfl
  have e16 : (cs.toList.drop 16).take (Tryd.prog.cellsOf 24) = [cs[16]'(by omega)] := by
    rw [Tryd.cells24, List.drop_eq_getElem_cons (by simp; omega)]
    simp
  have e17 : (cs.toList.drop 17).take (Tryd.prog.cellsOf 24) = [cs[17]'(by omega)] := by
    rw [Tryd.cells24, List.drop_eq_getElem_cons (by simp; omega)]
    simp
  rw [e16, List.getElem?_eq_getElem (by omega)] at h1
  rw [e17, List.getElem?_eq_getElem (by omega)] at h2
  have o16 : Cell.okWide Tryd.prog W .any base 24 (cs[16]'(by omega)) := by
    obtain ⟨u, hu, hok⟩ := hall 16 _ (hcell 16 (by omega))
    have : u = 24 := by
      have e : (List.replicate 16 (5 : TypeId) ++ [24, 24])[16 % (List.replicate 16 (5 : TypeId) ++ [24, 24]).length]? = some 24 := rfl
      rw [e] at hu; exact (Option.some.inj hu).symm
    subst this; exact hok
  have o17 : Cell.okWide Tryd.prog W .any base 24 (cs[17]'(by omega)) := by
    obtain ⟨u, hu, hok⟩ := hall 17 _ (hcell 17 (by omega))
    have : u = 24 := by
      have e : (List.replicate 16 (5 : TypeId) ++ [24, 24])[17 % (List.replicate 16 (5 : TypeId) ++ [24, 24]).length]? = some 24 := rfl
      rw [e] at hu; exact (Option.some.inj hu).symm
    subst this; exact hok
  obtain ⟨ln, bn, mn⟩ := open_bytes o16 h1
  obtain ⟨lb, bb, mb⟩ := open_bytes o17 h2
  refine ⟨(cs.toList.take 16).map byteIn, cs[16]'(by omega), cs[17]'(by omega), ln, lb, ?_, by simp; omega, bn, mn, bb, mb⟩
  congr 1
  apply Array.ext_getElem?
  intro i
  rcases Nat.lt_or_ge i 16 with hi | hi
  · have hv := hcell i (by omega)
    obtain ⟨u, hu, hok⟩ := hall i _ hv
    have h5 : u = 5 := by
      have e : (List.replicate 16 (5 : TypeId) ++ [24, 24])[i % (List.replicate 16 (5 : TypeId) ++ [24, 24]).length]? = some 5 := by
        have el : (List.replicate 16 (5 : TypeId) ++ [24, 24]).length = 18 := rfl
        rw [el, Nat.mod_eq_of_lt (by omega), List.getElem?_append_left (by rw [List.length_replicate]; exact hi), List.getElem?_replicate]
        simp [hi]
      rw [e] at hu; exact (Option.some.inj hu).symm
    subst h5
    have e := byteIn_of hok
    have hsz' : i < (ag ((cs.toList.take 16).map byteIn)).size := by rw [ag_size]; simp; omega
    rw [hv, cas, Array.getElem?_append_left hsz', e]
    unfold ag
    simp [hi, hv]
  · have hag : (ag ((cs.toList.take 16).map byteIn)).size = 16 := by rw [ag_size]; simp; omega
    rw [cas, Array.getElem?_append_right (by omega), hag]
    have hc : i = 16 ∨ i = 17 ∨ 18 ≤ i := by omega
    rcases hc with rfl | rfl | h18
    · exact hcell 16 (by omega)
    · exact hcell 17 (by omega)
    · rw [Array.getElem?_eq_none (by omega), Array.getElem?_eq_none (by simp; omega)]

/-! The library's table. -/
theorem g64 : Tryd.prog.globalNamed "math/bits.deBruijn64tab" = some 1 := by kernel_rfl
theorem t64 : (Tryd.prog.globals[1]?).map (·.type) = some 88 := by kernel_rfl
theorem Tryd.cells88 : Tryd.prog.cellsOf 88 = 64 := by kernel_rfl
def tabInts : List Int := [0, 1, 56, 2, 57, 49, 28, 3, 61, 58, 42, 50, 38, 29, 17, 4, 62, 47, 59, 36, 45, 43, 51, 22, 53, 39, 33, 30, 24, 18, 12, 5, 63, 55, 48, 27, 60, 41, 37, 16, 46, 35, 44, 21, 52, 32, 23, 11, 54, 26, 40, 15, 34, 20, 31, 10, 25, 14, 19, 9, 13, 8, 7, 6]
theorem tabInts_eq : ∀ k, k < 64 → tabInts.getD k 0 = ((Gf.tab64.getD k 0).toNat : Int) := by decide +kernel
def laidTabs : List (String × DataW Unit) := [("math/bits.deBruijn32tab", Rows.laid_math_bits_deBruijn32tab), ("math/bits.deBruijn64tab", Rows.laid_math_bits_deBruijn64tab)]
theorem tab_of_laid {W : World} (h : laidMetH Tryd.prog laidTabs W) : Tab W := by
  rw [MakeChecks.laidMetH_plain _ _ _ (by kernel_rfl)] at h
  have h2 : laidMet Tryd.prog [("math/bits.deBruijn64tab", Lib.tabData .u8 tabInts)] W := laidMet.tail h
  have hT := Lib.tabIs_of_head g64 t64 Tryd.underlying88 Tryd.underlying5 Tryd.cells5 Tryd.cells88 h2
  have hc : ∀ k, k < 64 → W.cell? ⟨1, k, none⟩ = some (.int .u8 ((Gf.tab64.getD k 0).toNat : Int)) := fun k hk => by
    rw [← tabInts_eq k hk]; exact hT.cell g64 k hk
  exact ⟨hc, World.block_lt_of_cell? W _ (hc 0 (by decide))⟩
theorem own : ownKnob Tryd.prog.godebug = none := by kernel_rfl
theorem laidOut : laidOutB Tryd.prog = true := by kernel_rfl
theorem door_met (os : Os) (args : Array Value) : laidMetH Tryd.prog laidTabs ((World.doorLaid Tryd.prog 400 os).forCall (fun _ _ => 0) ⟨#[], args, []⟩).memory :=
  laidMetH_of_parts3 (fuel := 8) (laidMet_of_run' 8 (by kernel_rfl) (by kernel_rfl)) (by kernel_rfl) (by kernel_rfl)
end Go.Proofs.YtmolhljgmaoflaaDoor
