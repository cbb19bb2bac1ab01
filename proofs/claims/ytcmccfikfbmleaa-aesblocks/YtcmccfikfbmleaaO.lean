/- A block that came in as an argument is sixteen bytes. -/
import Derived.Test.YtcmccfikfbmleaaRows
import Derived.Test.YtcmccfikfbmleaaL
namespace Go.Proofs.Ytcmccfikfbmleaa

def byteIn : Value → UInt8
  | .int _ n => UInt8.ofNat n.toNat
  | _ => 0

theorem byteIn_of {W : World} {base : Nat} {v : Value} (h : Cell.okWide Try.prog W .any base 5 v) : v = B (byteIn v) := by
  unfold Cell.okWide at h
  rw [Try.underlying5] at h
  cases v <;> simp only [Cell.ok, Try.underlying5] at h
  case int k n =>
    obtain ⟨rfl, hn⟩ := h
    have hb : 0 ≤ n ∧ n ≤ 255 := by
      unfold IntKind.has at hn
      simpa [IntKind.min, IntKind.max, IntKind.bits, IntKind.signed] using hn
    unfold byteIn B
    rw [UInt8.toNat_ofNat_of_lt' (by show n.toNat < 256; omega)]
    congr 1
    omega

theorem Try.cells27 : Try.prog.cellsOf 27 = 16 := by kernel_rfl
theorem Try.types27 : Try.prog.cellTypes Try.prog.depth 27 = some (List.replicate 16 5) := by kernel_rfl

theorem open_block {W : World} {base : Nat} {v : Value} (h : Value.okWide Try.prog W .any base 27 v) : ∃ l : List UInt8, v = .agg (ag l) ∧ l.length = 16 := by
  unfold Value.okWide at h
  rw [Try.underlying27] at h
  obtain ⟨cs, rfl, hsz, ts, hts, _, hall⟩ := h
  rw [Try.cells27] at hsz
  rw [Try.types27] at hts
  simp only [Option.some.injEq] at hts
  subst hts
  refine ⟨cs.toList.map byteIn, ?_, by simpa using hsz⟩
  congr 1
  apply Array.ext_getElem?
  intro i
  by_cases hi : i < 16
  · have hv : cs[i]? = some cs[i] := Array.getElem?_eq_getElem (by omega)
    obtain ⟨u, hu, hok⟩ := hall i _ hv
    have h5 : u = 5 := by
      have : (List.replicate 16 (5 : TypeId))[i % (List.replicate 16 (5 : TypeId)).length]? = some 5 := by
        rw [List.length_replicate, List.getElem?_replicate]
        simp; omega
      rw [this] at hu; exact (Option.some.inj hu).symm
    subst h5
    have e := byteIn_of hok
    unfold ag
    rw [hv, e]
    simp [hv]
  · rw [Array.getElem?_eq_none (by omega), Array.getElem?_eq_none (by rw [ag_size]; simp; omega)]
end Go.Proofs.Ytcmccfikfbmleaa
