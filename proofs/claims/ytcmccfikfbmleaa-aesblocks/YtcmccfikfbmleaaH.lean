/- The walk of anchored. -/
import Derived.Test.YtcmccfikfbmleaaE
import Derived.Test.YtcmccfikfbmleaaV
import Derived.Test.YtcmccfikfbmleaaQ
namespace Go.Proofs.Ytcmccfikfbmleaa
open Go.RowKit Go.BigFrame

theorem Gf.anchor : Gf.encrypt Gf.key0 Gf.blk0 = Gf.out0 := by
  unfold Gf.encrypt
  rw [Gf.sbox_lit]
  decide +kernel

theorem Gf.key0_eq : Gf.fill (Gf.zeros 16) (fun i => UInt8.ofNat i) 16 = Gf.key0 := by decide +kernel
theorem Gf.blk0_eq : Gf.fill (Gf.zeros 16) (fun i => UInt8.ofNat (17 * i)) 16 = Gf.blk0 := by decide +kernel

set_option maxRecDepth 100000 in
set_option maxHeartbeats 1000000 in
theorem anchored_any (w : World) :
    Calls Try.prog 13 #[] w fun e w' => e = .returned (.bool true) ∧ Below w.heap.size w w' := by
  go_enter Try.func13, Try.ntmps13
  go_wp2
  go_loopw [3] (fun i wr => ∃ k : Nat, k ≤ 16 ∧ i = .int .i64 k ∧ Row wr w.heap.size 27 (ag (Gf.fill (Gf.zeros 16) (fun i => UInt8.ofNat i) k)) ∧ Row wr (w.heap.size + 1) 27 (ag (Gf.fill (Gf.zeros 16) (fun i => UInt8.ofNat (17 * i)) k)) ∧ Below w.heap.size w wr) (fun i _ => 16 - (intOf i).toNat)
  case atStart =>
    refine ⟨0, by omega, rfl, ?_, ?_, ?_⟩
    · exact (Row.made _ _ _ _ _ rfl rfl).alloc _
    · exact Row.made _ _ _ _ _ rfl (by simp)
    · exact ((Below.refl _ _).alloc (Nat.le_refl _) _).alloc (by simp) _
  case round =>
    obtain ⟨k, hk, rfl, h1, h2, hbl⟩ := hrel
    by_cases hlt : k < 16
    · have c1 := h1.byte (k := k) (by rw [Gf.fill_len]; exact hlt)
      have c2 := h2.byte (k := k) (by rw [Gf.fill_len]; exact hlt)
      have f1 := h1.frozen k
      have f2 := h2.frozen k
      go_wp2
      have u1 : (UInt8.ofNat k).toNat = k := UInt8.toNat_ofNat_of_lt' (by show k < 256; omega)
      have u2 : (UInt8.ofNat (17 * k)).toNat = 17 * k := UInt8.toNat_ofNat_of_lt' (by show 17 * k < 256; omega)
      refine ⟨⟨k + 1, by omega, by go_num, ?_, ?_, ?_⟩, by simp [intOf]; omega⟩
      · have := (h1.setByte k (UInt8.ofNat k)).setOther ⟨w.heap.size + 1, k, none⟩ (.int .u8 (17 * (k : Int))) (by simp)
        rw [u1] at this; exact this
      · have := (h2.setOther ⟨w.heap.size, k, none⟩ (.int .u8 (k : Int)) (by simp)).setByte k (UInt8.ofNat (17 * k))
        rw [u2] at this
        have e : (((17 * k : Nat)) : Int) = 17 * (k : Int) := by simp
        rw [e] at this; exact this
      · exact (hbl.setCell (Nat.le_refl _) _).setCell (by simp) _
    · have hk' : k = 16 := by omega
      subst hk'
      rw [Gf.key0_eq] at h1
      rw [Gf.blk0_eq] at h2
      go_wp2_with (first
        | (refine wpList_load_row rfl 27 (.tmp 1) rfl _ rfl _ _ h1 _ Try.underlying27 rfl 16 Try.info27 (by rw [ag_size]; rfl) ?_)
        | (refine wpList_load_row rfl 27 (.tmp 2) rfl _ rfl _ _ h2 _ Try.underlying27 rfl 16 Try.info27 (by rw [ag_size]; rfl) ?_)
        | fail)
      refine (encrypt_any Gf.key0 Gf.blk0 rfl rfl _).mono ?_
      rintro e w2 ⟨rfl, hb2⟩
      rw [Gf.anchor]
      have hbl2 : Below w.heap.size w w2 := hbl.trans (hb2.mono (by have := h1.lt; omega))
      clear h1 h2 hbl hb2
      have hq0 := run_eq_arr (P := Try.prog) w2 9999 27 5 16 .u8 Try.underlying27 Try.underlying5 (by kernel_rfl) Gf.out0 Gf.out0 rfl rfl ⟨9998, rfl⟩
      have hq : (Op.equalIn 10000 27 (.agg (ag Gf.out0)) (.agg #[.int .u8 105, .int .u8 196, .int .u8 224, .int .u8 216, .int .u8 106, .int .u8 123, .int .u8 4, .int .u8 48, .int .u8 216, .int .u8 205, .int .u8 183, .int .u8 128, .int .u8 112, .int .u8 180, .int .u8 197, .int .u8 90])).run Try.prog w2 = .ok true w2 := hq0.trans (by rw [decide_eq_true rfl])
      clear hq0
      go_wp2
      go_ret
      exact ⟨rfl, hbl2⟩
end Go.Proofs.Ytcmccfikfbmleaa
