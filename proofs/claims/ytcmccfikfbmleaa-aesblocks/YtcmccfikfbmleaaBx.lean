/- The walks of the reference's Unsub, of Sub and Unsub of package aes, and of AesBytes. -/
import Derived.Test.YtcmccfikfbmleaaBw
import Derived.Test.YtcmccfikfbmleaaH
namespace Go.Proofs.Ytcmccfikfbmleaa
open Go.RowKit Go.BigFrame

set_option maxRecDepth 100000 in
set_option maxHeartbeats 1000000 in
theorem refUnsub_any (b : UInt8) (w : World) :
    Calls Try.prog 12 #[.int .u8 (b.toNat : Int)] w fun e w' => e = .returned (.int .u8 ((Gf.look (Gf.orig Gf.sbox) b).toNat : Int)) ∧ Below w.heap.size w w' := by
  have hb : b.toNat < 256 := b.toNat_lt
  have H1 : Hid (∀ x, Gf.look (Gf.orig Gf.sbox) (Gf.look Gf.sbox x) = x) := Gf.back1
  have H2 : Hid (∀ x, Gf.look Gf.sbox (Gf.look (Gf.orig Gf.sbox) x) = x) := Gf.back2
  have HS : Hid (Gf.sbox.length = 256) := Gf.sbox_len
  generalize hres : Gf.look (Gf.orig Gf.sbox) b = res at *
  have HR := show Hid _ from hres
  clear hres
  go_enter Try.func12, Try.ntmps12
  go_wp2_with fail
  refine (refTable_any _).mono ?_
  rintro e w1 ⟨rfl, hb1⟩
  generalize Gf.orig Gf.sbox = U at *
  generalize Gf.sbox = T at *
  go_wp2_with (first
    | (refine wpList_alloc_row rfl 36 rfl _ _ Try.zero36 ?_)
    | (refine wpList_store_row rfl 36 _ _ rfl _ rfl _ rfl _ _ (Room.new _ _ _ _ (by rw [ag_size]; exact List.length_replicate)) Try.info36 (by rw [ag_size]; exact HS.out) (ag_one _) ?_; rw [World.setRow_alloc_new])
    | fail)
  have r1 : Row (w1.alloc (.cells (ag T) 36)) w1.heap.size 36 (ag T) := Row.new _ _ _
  have bel : Below w.heap.size w (w1.alloc (.cells (ag T) 36)) := hb1.alloc hb1.size _
  generalize w1.alloc (.cells (ag T) 36) = w2 at *
  generalize w1.heap.size = sb at *
  clear hb1
  go_loop [4] (fun i => ∃ k : Nat, k ≤ 256 ∧ i = .int .i64 k ∧ Hid (∀ j, j < k → T.getD j 0 ≠ b)) (fun i => 256 - (intOf i).toNat)
  case atStart => exact ⟨0, by omega, rfl, fun j hj => by omega⟩
  case round =>
    obtain ⟨k, hk, rfl, hno⟩ := hrel
    by_cases hlt : k < 256
    · have c1 := r1.byte (k := k) (by rw [HS.out]; exact hlt)
      obtain ⟨x, hx⟩ : ∃ x, T.getD k 0 = x := ⟨_, rfl⟩
      rw [hx] at c1
      have hxl : x.toNat < 256 := x.toNat_lt
      by_cases he : x = b
      · subst he
        have hr : (res.toNat : Int) = (k : Int) := by
          have hk' : (UInt8.ofNat k).toNat = k := UInt8.toNat_ofNat_of_lt' hlt
          have h1 : Gf.look T (UInt8.ofNat k) = x := by unfold Gf.look; rw [hk']; exact hx
          have h2 := H1.out (UInt8.ofNat k)
          rw [h1, HR.out] at h2
          rw [h2, hk']
        have HK := show Hid _ from hr
        clear hr hx
        go_wp2
        go_ret
        exact ⟨ret_int HK.out.symm, bel⟩
      · have ht : ((x.toNat : Int) == (b.toNat : Int)) = false := by
          rw [beq_eq_false_iff_ne]; intro h; exact he (UInt8.toNat_inj.1 (by omega))
        have hno' : Hid (∀ j, j < k + 1 → T.getD j 0 ≠ b) := fun j hj => by
          rcases Nat.lt_or_ge j k with h | h
          · exact hno.out j h
          · have : j = k := by omega
            subst this; rw [hx]; exact he
        clear hx he hno
        go_wp2
        go_round
        case rel => exact ⟨k + 1, by omega, by go_num, hno'⟩
        case measure => simp [intOf]; omega
    · exfalso
      have h2 := H2.out b
      refine hno.out (Gf.look U b).toNat ?_ h2
      have := (Gf.look U b).toNat_lt
      omega

set_option maxRecDepth 100000 in
set_option maxHeartbeats 1000000 in
theorem sub_any (b : UInt8) (w : World) :
    Calls Try.prog 9 #[.int .u8 (b.toNat : Int)] w fun e w' => e = .returned (.int .u8 ((Gf.look Gf.sbox b).toNat : Int)) ∧ Below w.heap.size w w' := by
  have hb : b.toNat < 256 := b.toNat_lt
  have HS : Hid (Gf.sbox.length = 256) := Gf.sbox_len
  obtain ⟨r, hr⟩ : ∃ r, Gf.look Gf.sbox b = r := ⟨_, rfl⟩
  rw [hr]
  have HR := show Hid _ from hr
  clear hr
  go_enter Try.func9, Try.ntmps9
  go_wp2_with fail
  refine (substitutes_any _).mono ?_
  rintro e w1 ⟨rfl, hb1⟩
  have hix : (Instr.index 36 (.agg (ag Gf.sbox)) (.int .u8 (b.toNat : Int))).run Try.prog w1 = .ok (.int .u8 (r.toNat : Int)) w1 := by
    rw [← HR.out]
    exact run_index_arr w1 36 5 256 _ b.toNat _ .u8 .u8 Try.underlying36 Try.underlying5 (by kernel_rfl) hb (ag_get (by rw [HS.out]; exact hb))
  clear HR
  generalize Gf.sbox = T at *
  go_wp2
  go_ret
  exact ⟨rfl, hb1⟩

set_option maxRecDepth 100000 in
set_option maxHeartbeats 1000000 in
theorem unsub_any (b : UInt8) (w : World) :
    Calls Try.prog 11 #[.int .u8 (b.toNat : Int)] w fun e w' => e = .returned (.int .u8 ((Gf.look (Gf.orig Gf.sbox) b).toNat : Int)) ∧ Below w.heap.size w w' := by
  have hb : b.toNat < 256 := b.toNat_lt
  have HS : Hid (Gf.sbox.length = 256) := Gf.sbox_len
  have HU : Hid ((Gf.orig Gf.sbox).length = 256) := Gf.origTo_len Gf.sbox 256
  obtain ⟨r, hr⟩ : ∃ r, Gf.look (Gf.orig Gf.sbox) b = r := ⟨_, rfl⟩
  rw [hr]
  have HR := show Hid _ from hr
  clear hr
  go_enter Try.func11, Try.ntmps11
  go_wp2_with fail
  refine (substitutes_any _).mono ?_
  rintro e w1 ⟨rfl, hb1⟩
  generalize Gf.sbox = T at *
  go_wp2_with (first
    | (refine wpList_alloc_row rfl 36 rfl _ _ Try.zero36 ?_)
    | (refine wpList_store_row rfl 36 _ _ rfl _ rfl _ rfl _ _ (Room.new _ _ _ _ (by rw [ag_size]; exact List.length_replicate)) Try.info36 (by rw [ag_size]; exact HS.out) (ag_one _) ?_; rw [World.setRow_alloc_new])
    | fail)
  refine (origins_any T HS.out _ _ _ (Row.new _ _ _)).mono ?_
  rintro e w2 ⟨rfl, hb2⟩
  have bel : Below w.heap.size w w2 := (hb1.alloc hb1.size _).trans (hb2.mono (by have := hb1.size; simp; omega))
  have hix : (Instr.index 36 (.agg (ag (Gf.orig T))) (.int .u8 (b.toNat : Int))).run Try.prog w2 = .ok (.int .u8 (r.toNat : Int)) w2 := by
    rw [← HR.out]
    exact run_index_arr w2 36 5 256 _ b.toNat _ .u8 .u8 Try.underlying36 Try.underlying5 (by kernel_rfl) hb (ag_get (by rw [HU.out]; exact hb))
  clear hb1 hb2 HR
  generalize Gf.orig T = U at *
  go_wp2
  go_ret
  exact ⟨rfl, bel⟩

theorem eq_self (x : UInt8) : ((x.toNat : Int) == (x.toNat : Int)) = true := by simp

set_option maxRecDepth 100000 in
set_option maxHeartbeats 1000000 in
theorem bytes_any (a b : UInt8) (w : World) :
    Calls Try.prog 3 #[.int .u8 (a.toNat : Int), .int .u8 (b.toNat : Int)] w fun e w' => e = .returned (.bool true) ∧ Below w.heap.size w w' := by
  have hback : Hid (Gf.look (Gf.orig Gf.sbox) (Gf.look Gf.sbox b) = b) := Gf.back1 b
  go_enter Try.func3, Try.ntmps3
  go_wp2_with fail
  refine (times_any a b _).mono ?_
  rintro e w' ⟨rfl, rfl⟩
  go_wp2_with fail
  refine (refTimes_any a b _).mono ?_
  rintro e w' ⟨rfl, rfl⟩
  generalize Gf.times a b = t at *
  go_wp2_with fail
  refine (sub_any a _).mono ?_
  rintro e w1 ⟨rfl, hb1⟩
  go_wp2_with fail
  refine (refSub_any a _).mono ?_
  rintro e w' ⟨rfl, rfl⟩
  generalize Gf.look Gf.sbox a = u at *
  go_wp2_with fail
  refine (unsub_any a _).mono ?_
  rintro e w2 ⟨rfl, hb2⟩
  go_wp2_with fail
  refine (refUnsub_any a _).mono ?_
  rintro e w3 ⟨rfl, hb3⟩
  generalize Gf.look (Gf.orig Gf.sbox) a = v at *
  go_wp2_with fail
  refine (sub_any b _).mono ?_
  rintro e w4 ⟨rfl, hb4⟩
  go_wp2_with fail
  refine (unsub_any _ _).mono ?_
  rintro e w5 ⟨rfl, hb5⟩
  rw [hback.out]
  generalize Gf.look Gf.sbox b = z at *
  go_wp2_with fail
  refine (anchored_any _).mono ?_
  rintro e w6 ⟨rfl, hb6⟩
  go_wp2
  go_ret
  refine ⟨rfl, ?_⟩
  have s1 := hb1.size
  have s2 := hb2.size
  have s3 := hb3.size
  have s4 := hb4.size
  have s5 := hb5.size
  exact hb1.trans ((hb2.mono s1).trans ((hb3.mono (by omega)).trans ((hb4.mono (by omega)).trans ((hb5.mono (by omega)).trans (hb6.mono (by omega))))))
end Go.Proofs.Ytcmccfikfbmleaa
