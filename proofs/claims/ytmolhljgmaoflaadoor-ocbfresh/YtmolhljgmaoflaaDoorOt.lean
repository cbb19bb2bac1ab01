/- The walk of the reference's way to compare bytes. -/
import Derived.Test.YtmolhljgmaoflaaDoorOs
import Derived.Laws.IdiomStrings
import Derived.Laws.BytesArg
namespace Go.Proofs.YtmolhljgmaoflaaDoor
open Go.RowKit Go.BigFrame

theorem conv_bts {S : Nat → Prop} {w : World} {v : Value} {l : List UInt8} (h : Bts S w v l) : (convert 24 9 v).run Tryd.prog w = .ok (.string ⟨l.toArray⟩) w := by
  obtain ⟨a, c, rfl, _, h3⟩ := h
  rcases h3 with rfl | ⟨b, o, rfl, _, hr⟩
  · cases a with
    | none => exact run_convert_bytes_nil w 24 5 Tryd.underlying24 Tryd.underlying5 _ c 9 Tryd.underlying9
    | some a => exact run_convert_bytes_back w 24 9 5 a c [] Tryd.underlying24 Tryd.underlying5 Tryd.underlying9 (fun j hj => absurd hj (by simp))
  · refine run_convert_bytes_back w 24 9 5 ⟨b, o, none⟩ c l Tryd.underlying24 Tryd.underlying5 Tryd.underlying9 (fun j hj => ?_)
    rw [Addr.add_mid]
    exact hr j _ (by simp [hj]; rfl)
theorem convert_op {P : Program} {op : Oper} {a : Act} (s t : TypeId) (x : Operand) (ho : op.op = .convert s t x) (v : Value) (w : World) (h : (convert s t (a.eval x)).run P w = .ok v w) : (execOp a.eval op).run P w = .ok (.value v) w := by
  unfold execOp
  simp only [ho, Sem.run_bind, h, Result.andThen_ok, Sem.run_pure]
theorem bytes_eq (a b : List UInt8) : ((⟨a.toArray⟩ : ByteArray).toList == (⟨b.toArray⟩ : ByteArray).toList) = decide (a = b) := by
  rw [ByteArray.toList_mk, ByteArray.toList_mk, Bool.eq_iff_iff, beq_iff_eq, decide_eq_true_eq]

set_option maxRecDepth 100000 in
set_option maxHeartbeats 1000000 in
theorem refSame_any (S1 S2 : Nat → Prop) (va vb : Value) (la lb : List UInt8) (w : World) (ha : Bts S1 w va la) (hb : Bts S2 w vb lb) :
    Calls Tryd.prog 10 #[va, vb] w fun e w' => e = .returned (.bool (decide (la = lb))) ∧ w' = w := by
  have h1 := conv_bts ha
  have h2 := conv_bts hb
  have h3 := bytes_eq la lb
  generalize decide (la = lb) = r at *
  obtain ⟨s1, hs1⟩ : ∃ s1, (⟨la.toArray⟩ : ByteArray) = s1 := ⟨_, rfl⟩
  obtain ⟨s2, hs2⟩ : ∃ s2, (⟨lb.toArray⟩ : ByteArray) = s2 := ⟨_, rfl⟩
  rw [hs1] at h1 h3
  rw [hs2] at h2 h3
  clear hs1 hs2 ha hb
  go_enter Tryd.func10, Tryd.ntmps10
  go_wp2_with (first
    | (refine wpList_val rfl _ (convert_op 24 9 (.tmp 5) rfl _ _ h1) ?_)
    | (refine wpList_val rfl _ (convert_op 24 9 (.tmp 7) rfl _ _ h2) ?_)
    | fail)
  go_ret
  exact ⟨by rw [← h3]; rfl, rfl⟩

/-! One sealed nothing that the standard fixes. -/
def Gf.keyA : List UInt8 := [0, 1, 2, 3, 4, 5, 6, 7, 8, 9, 10, 11, 12, 13, 14, 15]
def Gf.nonA : List UInt8 := [0xbb, 0xaa, 0x99, 0x88, 0x77, 0x66, 0x55, 0x44, 0x33, 0x22, 0x11, 0x00]
def Gf.outA : List UInt8 := [0x78, 0x54, 0x07, 0xbf, 0xff, 0xc8, 0xad, 0x9e, 0xdc, 0xc5, 0x52, 0x0a, 0xc9, 0x11, 0x1e, 0xe6]
theorem Gf.encrypt_lit (key b : List UInt8) : Gf.encrypt key b = Gf.encTo Gf.sboxLit (Gf.keys Gf.sboxLit key) b 10 := by unfold Gf.encrypt; rw [Gf.sbox_lit]
theorem Gf.sealed_nil (key n : List UInt8) : Gf.sealed key n [] [] = Gf.bxor (Gf.encrypt key (Gf.bxor (Gf.bxor (Gf.zeros 16) (Gf.begin key n)) (Gf.dblk (Gf.encrypt key (Gf.zeros 16))))) (Gf.zeros 16) := by
  unfold Gf.sealed Gf.tag
  rw [Gf.turnFrom_eq, dif_neg (by simp), if_neg (by simp), Gf.sumFrom_eq, dif_neg (by simp), if_neg (by simp), Gf.digFrom_eq, dif_neg (by simp), if_neg (by simp)]
  rfl
set_option maxRecDepth 100000 in
theorem Gf.anchorA : Gf.sealed Gf.keyA Gf.nonA [] [] = Gf.outA := by
  rw [Gf.sealed_nil]
  unfold Gf.begin
  simp only [Gf.encrypt_lit]
  decide +kernel
theorem Gf.keyA_eq : Gf.fill (Gf.zeros 16) (fun i => UInt8.ofNat i) 16 = Gf.keyA := by decide +kernel

set_option maxRecDepth 100000 in
set_option maxHeartbeats 2000000 in
theorem anchored_any (w : World) (ht : Tab w) : Calls Tryd.prog 14 #[] w fun e w' => e = .returned (.bool true) ∧ Below w.heap.size w w' := by
  have HA := Box'.mk Gf.anchorA
  have HK := Box'.mk Gf.keyA_eq
  have lK : Gf.keyA.length = 16 := rfl
  have lN : Gf.nonA.length = 12 := rfl
  have lO : Gf.outA.length = 16 := rfl
  have eN : Box' (ag Gf.nonA = #[.int .u8 187, .int .u8 170, .int .u8 153, .int .u8 136, .int .u8 119, .int .u8 102, .int .u8 85, .int .u8 68, .int .u8 51, .int .u8 34, .int .u8 17, .int .u8 0]) := ⟨by kernel_rfl⟩
  have eO : Box' (ag Gf.outA = #[.int .u8 120, .int .u8 84, .int .u8 7, .int .u8 191, .int .u8 255, .int .u8 200, .int .u8 173, .int .u8 158, .int .u8 220, .int .u8 197, .int .u8 82, .int .u8 10, .int .u8 201, .int .u8 17, .int .u8 30, .int .u8 230]) := ⟨by kernel_rfl⟩
  generalize Gf.outA = OA at *
  generalize Gf.keyA = KA at *
  generalize Gf.nonA = NA at *
  have hlt := ht.lt
  go_enter Tryd.func14, Tryd.ntmps14
  go_wp2
  go_loopw [2] (fun i wr => ∃ k : Nat, k ≤ 16 ∧ i = .int .i64 k ∧ Row wr w.heap.size 23 (ag (Gf.fill (Gf.zeros 16) (fun i => UInt8.ofNat i) k)) ∧ Below w.heap.size w wr) (fun i _ => 16 - (intOf i).toNat)
  case atStart => exact ⟨0, by omega, rfl, Row.new _ _ _, (Below.refl _ _).alloc (Nat.le_refl _) _⟩
  case round =>
    obtain ⟨k, hk, rfl, h1, hbl⟩ := hrel
    by_cases hk16 : k < 16
    · have c1 := h1.byte (k := k) (by rw [Gf.fill_len]; exact hk16)
      have f1 := h1.frozen k
      have E : Box' (Gf.fill (Gf.zeros 16) (fun i => UInt8.ofNat i) (k + 1) = (Gf.fill (Gf.zeros 16) (fun i => UInt8.ofNat i) k).set k (UInt8.ofNat k)) := ⟨rfl⟩
      have hu : Box' ((UInt8.ofNat k).toNat = k) := ⟨UInt8.toNat_ofNat_of_lt' (by show k < 256; omega)⟩
      go_wp2
      refine ⟨⟨k + 1, by omega, by go_num, ?_, hbl.setCell (by simp) _⟩, by simp [intOf]; omega⟩
      have := h1.setByte k (UInt8.ofNat k)
      rw [hu.out] at this
      rw [E.out]; exact this
    · have hk' : k = 16 := by omega
      subst hk'
      rw [HK.out] at h1
      have hz := h1.lt
      have ht1 := ht.below hbl hlt
      clear HK
      go_wp2_with (first
        | (refine wpList_load_row rfl 23 (.tmp 1) rfl _ rfl _ _ (h1.alloc _) _ Tryd.underlying23 rfl 16 Tryd.info23 (by rw [ag_size]; exact lK) ?_)
        | fail)
      rw [← eN.out]
      have hbn : Below wr.heap.size wr (wr.alloc (.cells (ag NA) 5)) := (Below.refl _ _).alloc (Nat.le_refl _) _
      have hzn : (wr.alloc (.cells (ag NA) 5)).heap.size = wr.heap.size + 1 := by simp
      have rn : Row (wr.alloc (.cells (ag NA) 5)) wr.heap.size 5 (ag NA) := Row.new _ _ _
      have hbw : Below w.heap.size w (wr.alloc (.cells (ag NA) 5)) := hbl.trans (hbn.mono (by omega))
      have bn : Bts (· < (wr.alloc (.cells (ag NA) 5)).heap.size) (wr.alloc (.cells (ag NA) 5)) (.slice (some ⟨wr.heap.size, 0, none⟩) 12 12) NA := ⟨_, _, by rw [lN], by omega, .inr ⟨_, 0, rfl, by show wr.heap.size < _; omega, fun j u hu => by rw [Nat.zero_add, rn.cell]; simpa [ag] using hu⟩⟩
      have be : Bts (· < (wr.alloc (.cells (ag NA) 5)).heap.size) (wr.alloc (.cells (ag NA) 5)) (.slice none 0 0) [] := ⟨none, 0, rfl, by simp, .inl rfl⟩
      have ht2 := ht.below hbw hlt
      refine (seal_ok KA lK _ _ _ NA [] [] (by omega) (by omega) (by simp) (by simp) _ ht2 bn be be).mono ?_
      rintro e w1 ⟨g, rfl, hbu, hgl, hb1⟩
      rw [HA.out] at hbu
      have hb2 : Below w.heap.size w w1 := hbw.trans (hb1.mono (by omega))
      have hgz : g < w1.heap.size := (World.ownsRow.lt hbu g rfl).2
      clear hb1 bn be rn hbw hbn ht2 h1 hbl ht1 HA eN
      simp only [List.length_nil, Nat.zero_add]
      simp only [List.length_nil, Nat.zero_add] at hbu
      have bs : Bts (· < w1.heap.size) w1 (.slice (some ⟨g, 0, none⟩) 16 16) OA := by
        have := hbu.bts (S := (· < w1.heap.size)) hgz (by omega)
        rw [lO] at this
        exact this
      have ro : Row (w1.alloc (.cells (ag OA) 5)) w1.heap.size 5 (ag OA) := Row.new _ _ _
      have bo : Bts (· < (w1.alloc (.cells (ag OA) 5)).heap.size) (w1.alloc (.cells (ag OA) 5)) (.slice (some ⟨w1.heap.size, 0, none⟩) 16 16) OA := ⟨_, _, by rw [lO], by omega, .inr ⟨_, 0, rfl, by simp, fun j u hu => by rw [Nat.zero_add, ro.cell]; simpa [ag] using hu⟩⟩
      have bs2 : Bts (· < w1.heap.size) (w1.alloc (.cells (ag OA) 5)) (.slice (some ⟨g, 0, none⟩) 16 16) OA := bs.below ((Below.refl _ _).alloc (Nat.le_refl _) _) (fun b h => h)
      have hb3 := hb2.alloc (o := .cells (ag OA) 5) hb2.size
      have hsm := refSame_any _ _ _ _ OA OA (w1.alloc (.cells (ag OA) 5)) bs2 bo
      rw [eO.out] at hsm hb3
      clear bs bo bs2 ro hbu eO
      rw [decide_eq_true rfl] at hsm
      go_wp2_with fail
      refine hsm.mono ?_
      rintro e w2 ⟨rfl, rfl⟩
      go_wp2
      go_ret
      exact ⟨rfl, hb3⟩
end Go.Proofs.YtmolhljgmaoflaaDoor
