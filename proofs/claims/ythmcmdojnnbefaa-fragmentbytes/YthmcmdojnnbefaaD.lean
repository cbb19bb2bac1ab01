/- The walks of appendNumber and Uint. -/
import Derived.Test.YthmcmdojnnbefaaC
namespace Go.Proofs.Ythmcmdojnnbefaa
open Go.RowKit Go.BigFrame

theorem cut7 (m : Nat) (hm : m < 18446744073709551616) : bits .or .u8 (bits .and .u64 (m : Int) 127 % 256) 128 = (((UInt8.ofNat (m % 128 + 128)).toNat : Nat) : Int) := by
  rw [show (127 : Int) = ((127 : Nat) : Int) from rfl, u64_and_nat _ _ hm (by decide), show ((m &&& 127 : Nat) : Int) % 256 = ((m % 128 : Nat) : Int) by rw [show (127 : Nat) = 2 ^ 7 - 1 from rfl, Nat.and_two_pow_sub_one_eq_mod]; omega, show (128 : Int) = ((128 : Nat) : Int) from rfl, u8_or_nat _ _ (by omega) (by decide), ofNat_toNat (by omega)]
  congr 1
  have := Nat.two_pow_add_eq_or_of_lt (i := 7) (b := m % 128) (by omega) 1
  rw [Nat.or_comm, show (128 : Nat) = 2 ^ 7 * 1 from rfl, ← this]
  omega
set_option maxRecDepth 100000 in
set_option maxHeartbeats 2000000 in
theorem appNum_any (N : Nat) (w : World) (v : Value) (d : List UInt8) (n : Nat) (hn : n < 18446744073709551616) (hN : N ≤ w.heap.size) (ho : OwnB N w v d) (hd : d.length ≤ 1000000) :
    Calls Try.prog 36 #[v, .int .u64 (n : Int)] w fun e w' => ∃ v', e = .returned v' ∧ OwnB N w' v' (d ++ uf n) ∧ Fr N w w' := by
  obtain ⟨D, hD⟩ : ∃ D, D = d ++ uf n := ⟨_, rfl⟩
  have HD : Box' (d ++ uf n = D ∧ D.length ≤ 1000010) := ⟨hD.symm, by rw [hD, List.length_append]; have := uf_len64 hn; omega⟩
  rw [← hD]
  have HO := Box'.mk ho
  clear hD ho
  obtain ⟨a0, c0, rfl⟩ := HO.out.slice
  generalize d.length = L0 at *
  go_enter Try.func36, Try.ntmps36
  go_wp2_with fail
  go_loopw [0, 1] (fun u nv wr => ∃ (m : Nat) (d' : List UInt8), nv = .int .u64 (m : Int) ∧ m < 18446744073709551616 ∧ Box' (OwnB N wr u d') ∧ Box' (d' ++ uf m = D ∧ D.length ≤ 1000010) ∧ Fr N w wr) (fun _ nv _ => (intOf nv).toNat)
  case atStart => exact ⟨n, d, rfl, hn, HO, HD, Fr.refl _ _⟩
  case round =>
    clear HO HD
    obtain ⟨m, d', rfl, hm, HO, HD, hf⟩ := hrel
    obtain ⟨a1, c1, rfl⟩ := HO.out.slice
    have CU := Box'.mk (cut7 m hm)
    have hwN : N ≤ wr.heap.size := by have := hf.size; omega
    have HDL : Box' (d'.length + 1 ≤ 140737488355328) := ⟨by have h1 := HD.out.1; have h2 := HD.out.2; rw [← h1, List.length_append] at h2; omega⟩
    by_cases hlt : m < 128
    · have E : Box' (∀ x : UInt8, x = UInt8.ofNat m → d' ++ [x] = D) := ⟨fun x hx => by rw [← HD.out.1, uf_small hlt, hx]⟩
      have EB : Box' ((m : Int) % 256 = (((UInt8.ofNat m).toNat : Nat) : Int)) := ⟨by rw [ofNat_toNat (by omega)]; omega⟩
      have EC : Box' ((m : Int) = (((UInt8.ofNat m).toNat : Nat) : Int)) := ⟨by rw [ofNat_toNat (by omega)]⟩
      generalize UInt8.ofNat m = x at *
      have hn2 : ¬ (127 < m) := by omega
      clear CU
      go_wp2_with (refine wpList_app rfl (.tmp 16) (.tmp 19) rfl N _ (Nat.le_trans hwN (by simp)) _ d' rfl (HO.out.alloc _) _ [x] rfl (by first | (rw [EB.out]; exact one_in wr x) | (rw [EC.out]; exact one_in wr x)) HDL.out ?_; intro v2 w2 o2 f2)
      have F2 : Fr N w w2 := (hf.alloc _).trans f2
      have e := E.out x rfl
      rw [e] at o2
      go_wp2_with fail
      go_ret
      exact ⟨_, rfl, o2, F2⟩
    · have hgt : 127 < m := by omega
      have E : Box' (d' ++ [UInt8.ofNat (m % 128 + 128)] ++ uf (m / 128) = D ∧ D.length ≤ 1000010) := ⟨by rw [← HD.out.1, uf_big hlt, List.append_assoc]; rfl, HD.out.2⟩
      generalize UInt8.ofNat (m % 128 + 128) = x at *
      go_wp2_with (refine wpList_app rfl (.tmp 9) (.tmp 14) rfl N _ (Nat.le_trans hwN (by simp)) _ d' rfl (HO.out.alloc _) _ [x] rfl (by rw [CU.out]; exact one_in wr x) HDL.out ?_; intro v2 w2 o2 f2)
      have F2 : Fr N w w2 := (hf.alloc _).trans f2
      refine ⟨⟨m / 128, _, ?_, by omega, ⟨o2⟩, E, F2⟩, ?_⟩
      · congr 1
      · simp [intOf]; omega

set_option maxRecDepth 100000 in
set_option maxHeartbeats 2000000 in
theorem uint_any (n : Nat) (hn : n < 18446744073709551616) (w : World) : Calls Try.prog 25 #[.int .u64 (n : Int)] w fun e w' => ∃ v', e = .returned v' ∧ OwnB w.heap.size w' v' (uf n) ∧ Below w.heap.size w w' := by
  have h := appNum_any w.heap.size w (.slice none 0 0) [] n hn (Nat.le_refl _) (OwnB.nil _ _) (by simp)
  rw [List.nil_append] at h
  go_enter Try.func25, Try.ntmps25
  go_wp2_with fail
  refine h.mono ?_
  rintro e w1 ⟨v1, rfl, o1, f1⟩
  clear h
  go_wp2_with fail
  go_ret
  exact ⟨_, rfl, o1, f1.below (Nat.le_refl _)⟩
end Go.Proofs.Ythmcmdojnnbefaa
