/- The walks of the reference's Uint and ReadUint. -/
import Derived.Test.YthmcmdojnnbefaaE
import Derived.BigQuiet
namespace Go.Proofs.Ythmcmdojnnbefaa
open Go.RowKit Go.BigFrame

set_option maxRecDepth 100000 in
set_option maxHeartbeats 2000000 in
theorem refUint_any (n : Nat) (hn : n < 18446744073709551616) (w : World) : Calls Try.prog 26 #[.int .u64 (n : Int)] w fun e w' => ∃ v', e = .returned v' ∧ OwnB w.heap.size w' v' (uf n) ∧ Below w.heap.size w w' := by
  obtain ⟨D, hD⟩ : ∃ D, D = uf n := ⟨_, rfl⟩
  have HD : Box' ([] ++ uf n = D ∧ D.length ≤ 10) := ⟨by rw [hD]; rfl, by rw [hD]; exact uf_len64 hn⟩
  rw [← hD]
  clear hD
  obtain ⟨N, hN⟩ : ∃ N, N = w.heap.size := ⟨_, rfl⟩
  have HN := Box'.mk hN
  rw [← hN]
  clear hN
  go_enter Try.func26, Try.ntmps26
  go_wp2_with fail
  go_loopw [0, 3] (fun nv u wr => ∃ (m : Nat) (d' : List UInt8), nv = .int .u64 (m : Int) ∧ m < 18446744073709551616 ∧ Box' (OwnB N wr u d') ∧ Box' (d' ++ uf m = D ∧ D.length ≤ 10) ∧ Fr N w wr) (fun nv _ _ => (intOf nv).toNat)
  case atStart => exact ⟨n, [], rfl, hn, ⟨OwnB.nil _ _⟩, HD, Fr.refl _ _⟩
  case round =>
    clear HD
    obtain ⟨m, d', rfl, hm, HO, HD, hf⟩ := hrel
    obtain ⟨a1, c1, rfl⟩ := HO.out.slice
    have hwN : N ≤ wr.heap.size := by have := hf.size; have := HN.out; omega
    have HDL : Box' (d'.length + 1 ≤ 140737488355328) := ⟨by have h1 := HD.out.1; have h2 := HD.out.2; rw [← h1, List.length_append] at h2; omega⟩
    by_cases hlt : m < 128
    · have E : Box' (∀ x : UInt8, x = UInt8.ofNat m → d' ++ [x] = D) := ⟨fun x hx => by rw [← HD.out.1, uf_small hlt, hx]⟩
      have EB : Box' ((m : Int) % 256 = (((UInt8.ofNat m).toNat : Nat) : Int)) := ⟨by rw [ofNat_toNat (by omega)]; omega⟩
      have EC : Box' ((m : Int) = (((UInt8.ofNat m).toNat : Nat) : Int)) := ⟨by rw [ofNat_toNat (by omega)]⟩
      generalize UInt8.ofNat m = x at *
      go_wp2_with (refine wpList_app rfl (.tmp 15) (.tmp 18) rfl N _ (Nat.le_trans hwN (by simp)) _ d' rfl (HO.out.alloc _) _ [x] rfl (by first | (rw [EB.out]; exact one_in wr x) | (rw [EC.out]; exact one_in wr x)) HDL.out ?_; intro v2 w2 o2 f2)
      have F2 : Fr N w w2 := (hf.alloc _).trans f2
      have e := E.out x rfl
      rw [e] at o2
      have B2 := F2.below (by rw [HN.out]; exact Nat.le_refl _)
      go_wp2_with fail
      go_ret
      exact ⟨_, rfl, o2, B2⟩
    · have hge : 128 ≤ m := by omega
      have E : Box' (d' ++ [UInt8.ofNat (m % 128 + 128)] ++ uf (m / 128) = D ∧ D.length ≤ 10) := ⟨by rw [← HD.out.1, uf_big hlt, List.append_assoc]; rfl, HD.out.2⟩
      have CU : Box' ((m : Int) % 128 % 256 + 128 = (((UInt8.ofNat (m % 128 + 128)).toNat : Nat) : Int)) := ⟨by rw [ofNat_toNat (by omega)]; omega⟩
      have CV : Box' ((m : Int) % 128 + 128 = (((UInt8.ofNat (m % 128 + 128)).toNat : Nat) : Int)) := ⟨by rw [ofNat_toNat (by omega)]; omega⟩
      generalize UInt8.ofNat (m % 128 + 128) = x at *
      go_wp2_with (refine wpList_app rfl (.tmp 6) (.tmp 11) rfl N _ (Nat.le_trans hwN (by simp)) _ d' rfl (HO.out.alloc _) _ [x] rfl (by first | (rw [CU.out]; exact one_in wr x) | (rw [CV.out]; exact one_in wr x)) HDL.out ?_; intro v2 w2 o2 f2)
      have F2 : Fr N w w2 := (hf.alloc _).trans f2
      refine ⟨⟨m / 128, _, ?_, by omega, ⟨o2⟩, E, F2⟩, ?_⟩
      · congr 1
      · simp [intOf]; omega
end Go.Proofs.Ythmcmdojnnbefaa
