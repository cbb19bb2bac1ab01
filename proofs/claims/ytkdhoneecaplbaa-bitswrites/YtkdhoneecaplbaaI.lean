/- The walk of the reference's Write. -/
import Derived.Test.YtkdhoneecaplbaaH
import Derived.Test.YtkdhoneecaplbaaT
namespace Go.Proofs.Ytkdhoneecaplbaa
open Go.RowKit Go.BigFrame

theorem bit_lt (X v p j : Nat) (h : X < 2 ^ p) : X + v % 2 ^ j * 2 ^ p < 2 ^ (p + j) := by
  have h1 : v % 2 ^ j < 2 ^ j := Nat.mod_lt _ (Nat.two_pow_pos _)
  have h2 : (v % 2 ^ j + 1) * 2 ^ p ≤ 2 ^ j * 2 ^ p := Nat.mul_le_mul_right _ h1
  rw [Nat.add_mul] at h2
  rw [Nat.pow_add, Nat.mul_comm (2 ^ p)]
  omega
theorem bit_one (n q : Nat) : n % 2 < 2 ^ (8 - q % 8) := Nat.lt_of_lt_of_le (Nat.mod_lt _ (by decide)) (show 2 ^ 1 ≤ _ from Nat.pow_le_pow_right (by decide) (by omega))
theorem bit_next (X v p j : Nat) : X + v % 2 ^ j * 2 ^ p + v / 2 ^ j % 2 * 2 ^ (p + j) = X + v % 2 ^ (j + 1) * 2 ^ p := by
  have h : v % 2 ^ (j + 1) = v % 2 ^ j + 2 ^ j * (v / 2 ^ j % 2) := by rw [Nat.pow_succ, Nat.mod_mul]
  rw [h, Nat.add_mul, Nat.pow_add, Nat.mul_comm (2 ^ j), Nat.mul_assoc, Nat.mul_comm (2 ^ j), Nat.mul_comm (2 ^ p)]
  omega

theorem bit_byte (y : UInt8) (v j r : Nat) (hv : v < 18446744073709551616) : bits .or .u8 (y.toNat : Int) (bits .and .u64 ((v : Int) / 2 ^ j) 1 % 256 * 2 ^ r % 256) = (((y ||| UInt8.ofNat (v / 2 ^ j % 2 * 2 ^ r)).toNat : Nat) : Int) := by
  have e2 : (v : Int) / 2 ^ j = ((v / 2 ^ j : Nat) : Int) := by simp
  have hd : v / 2 ^ j < 18446744073709551616 := Nat.lt_of_le_of_lt (Nat.div_le_self _ _) hv
  rw [e2, and1_u64 _ hd, ← or_u8]
  congr 1
  rw [UInt8.toNat_ofNat']
  have h1 : v / 2 ^ j % 2 < 2 := Nat.mod_lt _ (by decide)
  generalize v / 2 ^ j % 2 = d at *
  have e3 : ((d : Nat) : Int) % 256 = (d : Int) := by omega
  rw [e3]
  have e4 : (d : Int) * 2 ^ r = ((d * 2 ^ r : Nat) : Int) := by simp
  rw [e4]
  omega
set_option maxHeartbeats 1000000 in
theorem refWrite_any (v : Value) (l : List (Nat × Int)) (hl : l.length ≤ 140737488355328) (w : World) (h : Prs w.heap.size w v l) :
    Calls Try.prog 7 #[v] w fun e w' => ∃ u, e = .returned (.tuple #[u, .int .i64 (Gf.cntE l)]) ∧ Wrote w w' l u ∧ Below w.heap.size w w' := by
  have hcn := refCount_any v l hl w h
  obtain ⟨a, c, rfl, hc, h64, h3⟩ := h
  rcases Gf.cntE_cases l with ⟨e1, hm, ht⟩ | hbad
  · have eN : Gf.cntN l = (Gf.tot l : Int) := if_pos e1
    rw [e1, eN] at hcn
    rw [e1]
    have hcl : ∀ k, k < l.length → ∃ b o, a = some ⟨b, o, none⟩ ∧ b < w.heap.size ∧ w.cell? ⟨b, o + k * 2, none⟩ = some (.int .u64 ((l.getD k (0, 0)).1 : Int)) ∧ w.cell? ⟨b, o + k * 2 + 1, none⟩ = some (.int .i64 (l.getD k (0, 0)).2) ∧ (l.getD k (0, 0)).1 < 18446744073709551616 := by
      intro k hk
      rcases h3 with rfl | ⟨b, o, rfl, h5, h6⟩
      · simp at hk
      exact ⟨b, o, rfl, h5, (h6 k hk).1, (h6 k hk).2, by have := h64 l[k] (List.getElem_mem hk); simpa [hk] using this⟩
    have HCL := Box'.mk hcl
    have hW : Gf.wid l = (Gf.tot l + 7) / 8 := rfl
    have hW2 : Gf.wid l ≤ 16777216 := by rw [hW]; omega
    have hW3 : Gf.wid l ≤ 65536 := by rw [hW]; omega
    have TT := Box'.mk (Gf.tot_take l)
    have VT := Box'.mk (Gf.val_take l)
    have TL := Box'.mk (Gf.tot_le l)
    have VL : Box' (∀ k, Gf.val (l.take k) < 2 ^ Gf.tot (l.take k)) := ⟨fun k => Gf.val_lt _ fun x hx => hm x (List.mem_of_mem_take hx)⟩
    have LE : Box' (l.take l.length = l) := ⟨List.take_length⟩
    have MB : Box' (∀ k, k < l.length → 0 ≤ (l.getD k (0, 0)).2 ∧ (l.getD k (0, 0)).2 ≤ 64) := ⟨fun k hk => by
      have := hm l[k] (List.getElem_mem hk)
      unfold Gf.may at this
      have := of_decide_eq_true this
      simp only [List.getD_eq_getElem?_getD, List.getElem?_eq_getElem hk, Option.getD_some]
      exact ⟨this.1, this.2.1⟩⟩
    have ML : Box' (∀ k, k < l.length → (l.getD k (0, 0)).1 < 2 ^ (l.getD k (0, 0)).2.toNat) := ⟨fun k hk => by
      have := hm l[k] (List.getElem_mem hk)
      unfold Gf.may at this
      have := of_decide_eq_true this
      simp only [List.getD_eq_getElem?_getD, List.getElem?_eq_getElem hk, Option.getD_some]
      exact this.2.2⟩
    generalize hT : Gf.tot l = T at *
    generalize hWW : Gf.wid l = W at *
    generalize hn : l.length = n at *
    have H8 : Box' (2 ^ T ≤ 2 ^ (8 * W)) := ⟨Nat.pow_le_pow_right (by decide) (by omega)⟩
    have HT := Box'.mk hT
    have HWW := Box'.mk hWW
    have HW := Box'.mk hW
    have E1 := Box'.mk e1
    clear hcl h3 h64 hT hWW hn e1 eN hm hW
    go_enter Try.func7, Try.ntmps7
    go_wp2_with fail
    refine hcn.mono ?_
    rintro e w2 ⟨rfl, hb1⟩
    clear hcn
    go_wp2_with (first | (refine wpList_make_bytes rfl (.tmp 20) (.tmp 20) rfl _ _ W rfl rfl (by have := HW.out; omega) (by have := HW.out; omega) hW2 ?_) | fail)
    have hg0 := hb1.size
    have rg : Row (w2.alloc (.cells (ag (Gf.byt W 0)) 5)) w2.heap.size 5 (ag (Gf.byt W 0)) := Row.new _ _ _
    have bg : Below w.heap.size w (w2.alloc (.cells (ag (Gf.byt W 0)) 5)) := hb1.alloc hg0 _
    generalize w2.alloc (.cells (ag (Gf.byt W 0)) 5) = w3 at *
    generalize w2.heap.size = g at *
    clear hb1
    go_loopw [7, 8] (fun t i wr => ∃ k p X : Nat, k ≤ n ∧ i = .int .i64 (k : Int) ∧ t = .int .i64 (p : Int) ∧ p ≤ 524288 ∧ Box' (p = Gf.tot (l.take k) ∧ X = Gf.val (l.take k)) ∧ Row wr g 5 (ag (Gf.byt W X)) ∧ Below w.heap.size w wr) (fun _ i _ => n - (intOf i).toNat)
    case atStart => exact ⟨0, 0, 0, by omega, rfl, rfl, by omega, ⟨by simp [Gf.tot, Gf.val]⟩, rg, bg⟩
    case round =>
      obtain ⟨k, p, X, hk, rfl, rfl, hp, HP, r1, hbl⟩ := hrel
      by_cases hlt : k < n
      · obtain ⟨b, o, rfl, hbw, c0, c1, h64⟩ := HCL.out k hlt
        have TK := Box'.mk (TT.out k hlt)
        have VK := Box'.mk (VT.out k hlt)
        have T1 := Box'.mk (TL.out (k + 1))
        have V0 := Box'.mk (VL.out k)
        have V1 := Box'.mk (VL.out (k + 1))
        obtain ⟨m0, m1⟩ := MB.out k hlt
        have hx : Box' ((l.getD k (0, 0)).1 < 2 ^ (l.getD k (0, 0)).2.toNat) := ⟨ML.out k hlt⟩
        generalize l.getD k (0, 0) = x at *
        obtain ⟨xv, xs⟩ := x
        simp only at c0 c1 m0 m1 h64
        obtain ⟨s, rfl⟩ : ∃ s : Nat, xs = (s : Int) := ⟨xs.toNat, by omega⟩
        have hps : p + s ≤ 8 * W := by
          have h1 := TK.out
          have h2 := T1.out
          have h3 := HP.out.1
          have h4 := HW.out
          simp only [Int.toNat_natCast] at h1
          omega
        go_wp2_with fail
        go_loopw [7, 9] (fun t i wr => ∃ j : Nat, j ≤ s ∧ i = .int .i64 (j : Int) ∧ t = .int .i64 ((p + j : Nat) : Int) ∧ Row wr g 5 (ag (Gf.byt W (X + xv % 2 ^ j * 2 ^ p))) ∧ Below w.heap.size w wr) (fun _ i _ => s - (intOf i).toNat)
        case atStart => exact ⟨0, by omega, rfl, rfl, by rw [Nat.pow_zero, Nat.mod_one, Nat.zero_mul]; exact r1, hbl⟩
        case round =>
          obtain ⟨j, hj, rfl, rfl, r2, hb2⟩ := hrel
          obtain ⟨hc0, -⟩ := bcell hb2
          rw [← hc0 _ _ hbw] at c0 c1
          clear hc0
          by_cases hjs : j < s
          · have d1 := r2.byte (k := (p + j) / 8) (by rw [Gf.byt_len]; omega)
            have f1 := r2.frozen ((p + j) / 8)
            have HS := Box'.mk (fun x => r2.setByte ((p + j) / 8) x)
            have E := Box'.mk (Gf.byt_or W (X + xv % 2 ^ j * 2 ^ p) (p + j) (xv / 2 ^ j % 2) (bit_lt X xv p j (by rw [HP.out.1, HP.out.2]; exact V0.out)) (by omega) (bit_one _ _))
            generalize (Gf.byt W (X + xv % 2 ^ j * 2 ^ p)).getD ((p + j) / 8) 0 = y at *
            have hy := y.toNat_lt
            go_wp2_with fail
            refine wp_region_tail 20 (by kernel_rfl) (by kernel_rfl) ?_
            simp only [List.take_succ_cons, List.take_zero, List.drop_succ_cons, List.drop_zero]
            repeat (go_big_quiet_step (fail))
            refine wpQuiet_nil ?_
            go_wp2_with fail
            rw [bit_byte y xv j ((p + j) % 8) h64]
            refine ⟨⟨j + 1, by omega, by go_num, by go_num, ?_, ((hb2.setCell hg0 _)).drew⟩, by simp [intOf]; omega⟩
            rw [← bit_next, ← E.out]
            exact (HS.out _).drew
          · obtain rfl : j = s := by omega
            go_wp2_with fail
            have h1 := TK.out
            have h2 := T1.out
            have h3 := HP.out.1
            have h4 := hx.out
            simp only [Int.toNat_natCast] at h1 h4
            refine ⟨⟨k + 1, p + j, X + xv * 2 ^ p, by omega, by go_num, rfl, by omega, ⟨by omega, by rw [VK.out, HP.out.1, HP.out.2]⟩, ?_, hb2⟩, by simp [intOf]; omega⟩
            rw [Nat.mod_eq_of_lt h4] at r2; exact r2
      · obtain rfl : k = n := by omega
        go_wp2_with fail
        go_ret2
        refine ⟨_, rfl, .inl ⟨E1.out, g, by rw [HWW.out]; rfl, hg0, ?_⟩, hbl⟩
        have h1 := HP.out.2
        rw [LE.out] at h1
        rw [HWW.out, ← h1]; exact r1
  · have hne : Gf.cntE l ≠ 0 := by rcases hbad with h | h <;> rw [h.1] <;> decide
    have H : Box' (Wrote = Wrote ∧ Gf.cntE l ≠ 0) := ⟨rfl, hne⟩
    have i0 : (Gf.cntE l == 0) = false := by rw [beq_eq_false_iff_ne]; exact hne
    generalize hE : Gf.cntE l = E at *
    have HE := Box'.mk hE
    clear hbad h3 h64 hE hne
    go_enter Try.func7, Try.ntmps7
    go_wp2_with fail
    refine hcn.mono ?_
    rintro e w1 ⟨rfl, hb1⟩
    clear hcn
    go_wp2_with fail
    go_ret2
    exact ⟨_, rfl, .inr ⟨by rw [HE.out]; exact H.out.2, rfl⟩, hb1⟩
end Go.Proofs.Ytkdhoneecaplbaa
