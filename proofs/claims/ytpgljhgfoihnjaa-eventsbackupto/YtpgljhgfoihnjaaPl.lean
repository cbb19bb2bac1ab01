/- The walk of EventsBack. -/
import Derived.Test.YtpgljhgfoihnjaaPk
namespace Go.Proofs.Ytpgljhgfoihnjaa
open Go.RowKit Go.BigFrame
set_option maxRecDepth 100000
set_option linter.unusedSimpArgs false
set_option linter.unusedVariables false

set_option maxHeartbeats 8000000 in
theorem back_walk (HD : DifC 6) (HA : AppC 8) (HB : BegC 16) (HN : AncC 18) (w : World) (v1 v2 : Value) (l1 m : List Ev) (nn : UInt8) (hl1 : l1.length ≤ 1048576) (hlm : m.length ≤ 1048576) (hbl : ∀ k, k < l1.length → (l1.getD k Ev.none).byt.length ≤ 140737488351232) (e1 : Evs w.heap.size w v1 l1) (e2 : Evs w.heap.size w v2 m) :
    Calls Try.prog 4 #[v1, v2, .int .u8 (nn.toNat : Int)] w fun e w' => e = .returned (.bool true) ∧ Below w.heap.size w w' := by
  have cp := refCpy_C w v1 l1 (by omega) hbl e1
  have UP : Box' (∀ w1, Below w.heap.size w w1 → Evs w1.heap.size w1 v1 l1) := ⟨fun w1 b => (e1.below b (Nat.le_refl _)).up b.size⟩
  have E2 : Box' (∀ w1, Below w.heap.size w w1 → Evs w.heap.size w1 v2 m) := ⟨fun w1 b => e2.below b (Nat.le_refl _)⟩
  have AN : Box' (AncC 18) := ⟨HN⟩
  have BF := Box'.mk (fun k h => back_facts l1 m k h)
  have DC : Box' (DifC 6) := ⟨HD⟩
  have AC : Box' (AppC 8) := ⟨HA⟩
  have BC : Box' (BegC 16) := ⟨HB⟩
  have L1 := Box'.mk hl1
  have LM := Box'.mk hlm
  have LA : Box' ((l1 ++ m).length = l1.length + m.length) := ⟨List.length_append⟩
  obtain ⟨a1, c1, rfl, hc1⟩ := e1.cap
  obtain ⟨a2, c2, rfl, hc2⟩ := e2.cap
  clear hbl e1 e2 HD HA HB HN
  generalize hn1 : l1.length = n1 at *
  generalize hn2 : m.length = n2 at *
  have N1 := Box'.mk hn1
  have N2 := Box'.mk hn2
  clear hn1 hn2
  go_enter Try.func4, Try.ntmps4
  go_wp2_with fail
  refine cp.mono ?_
  rintro e w1 ⟨u0, ps, rfl, hps, o1, b1⟩
  have hz1 : w.heap.size ≤ w1.heap.size := b1.size
  have q2 := E2.out w1 b1
  have HPS := Box'.mk hps
  have PL : Box' (ps.length = n1) := ⟨by rw [← N1.out, ← hps, List.length_map]⟩
  have hmx : Box' ((ps.length + m.length) * 56 ≤ 140737488355328) := ⟨by have := PL.out; have := N2.out; omega⟩
  have B1 := Box'.mk b1
  clear cp hps b1 E2
  go_wp2_with (first | (refine wpList_appEvF rfl (.tmp 21) (.tmp 22) rfl w.heap.size hz1 _ ps rfl o1 a2 n2 c2 m rfl q2 hmx.out ?_; intro vb w2 eb b2; have EB := Box'.mk eb; have B2 := Box'.mk (B1.out.trans b2); clear eb b2 o1 q2 hmx hz1 PL B1) | fail)
  have eb := EB.out
  rw [HPS.out] at eb
  obtain ⟨ab, cb, hvb, hcb⟩ := eb.cap
  rw [LA.out] at hvb hcb
  subst hvb
  have EBX : Box' (∀ w3, Below w2.heap.size w2 w3 → Evs w3.heap.size w3 (.slice ab (n1 + n2) cb) (l1 ++ m)) := ⟨fun w3 b => (eb.below b (Nat.le_refl _)).up b.size⟩
  have UPX : Box' (∀ w3, Below w2.heap.size w2 w3 → Below w.heap.size w w3) := ⟨fun w3 b => B2.out.trans (b.mono B2.out.size)⟩
  have EAX : Box' (∀ w3, Below w2.heap.size w2 w3 → Evs w3.heap.size w3 (.slice a1 n1 c1) l1) := ⟨fun w3 b => UP.out w3 (UPX.out w3 b)⟩
  have LL : Box' (l1.length ≤ 140737488355328 ∧ (l1 ++ m).length ≤ 140737488355328 ∧ ∀ k, (l1 ++ m.take k).length ≤ 140737488355328) := ⟨by have := N1.out; omega, by have := LA.out; omega, fun k => by rw [List.length_append, List.length_take]; have := N1.out; have := N2.out; omega⟩
  have d1 := DC.out w2 _ _ l1 (l1 ++ m) LL.out.1 LL.out.2.1 (EAX.out w2 (Below.refl _ _)) (EBX.out w2 (Below.refl _ _))
  clear EB eb HPS UP B2
  have hmod : nn.toNat % (n2 + 1) ≤ n2 := Nat.lt_succ_iff.1 (Nat.mod_lt _ (Nat.succ_pos _))
  have hrem : (nn.toNat : Int) % ((n2 : Int) + 1) = ((nn.toNat % (n2 + 1) : Nat) : Int) := by rw [Int.natCast_emod]; rfl
  have hnn := nn.toNat_lt
  generalize nn.toNat % (n2 + 1) = kk at *
  have bf := BF.out kk hmod
  clear BF
  rcases bf with ⟨hx, hor⟩ | ⟨hx, f1, f2, f3, f4, f5⟩
  · have M1 : Box' (∀ w3, Below w2.heap.size w2 w3 → Calls Try.prog 15 #[.slice a1 n1 c1] w3 fun e w' => e = .returned (.bool (mayL l1)) ∧ Below w3.heap.size w3 w') := ⟨fun w3 b => refMayL_C w3 _ l1 LL.out.1 (EAX.out w3 b)⟩
    have M2 : Box' (∀ w3, Below w2.heap.size w2 w3 → Calls Try.prog 15 #[.slice ab (n1 + n2) cb] w3 fun e w' => e = .returned (.bool (mayL (l1 ++ m))) ∧ Below w3.heap.size w3 w') := ⟨fun w3 b => refMayL_C w3 _ (l1 ++ m) LL.out.2.1 (EBX.out w3 b)⟩
    have hxb : ((difF l1 (l1 ++ m)).2 != 0) = true := by rw [bne_iff_ne]; exact hx
    have HOR := Box'.mk hor
    clear DC AC BC EBX EAX LL LA hx hor hrem hmod L1 LM
    generalize difF l1 (l1 ++ m) = X at *
    generalize mayL l1 = p at *
    generalize mayL (l1 ++ m) = q at *
    generalize X.2 = xe at *
    refine d1.mono ?_
    rintro e w3 ⟨u1, rfl, _, b3⟩
    have B3 := Box'.mk b3
    clear d1 b3
    go_wp2_with fail
    refine (AN.out w3).mono ?_
    rintro e w4 ⟨rfl, b4⟩
    have B4 := Box'.mk (B3.out.trans (b4.mono B3.out.size))
    clear AN b4 B3
    go_wp2_with fail
    refine (M1.out w4 B4.out).mono ?_
    rintro e w5 ⟨rfl, b5⟩
    have B5 := Box'.mk (B4.out.trans (b5.mono B4.out.size))
    clear M1 b5 B4
    cases p with
    | false =>
      clear HOR M2
      go_wp2_with fail
      go_ret
      exact ⟨rfl, UPX.out _ B5.out⟩
    | true =>
      go_wp2_with fail
      refine (M2.out w5 B5.out).mono ?_
      rintro e w6 ⟨rfl, b6⟩
      have B6 := Box'.mk (B5.out.trans (b6.mono B5.out.size))
      clear M2 b6 B5
      cases q with
      | false =>
        clear HOR
        go_wp2_with fail
        go_ret
        exact ⟨rfl, UPX.out _ B6.out⟩
      | true =>
        obtain rfl : xe = 4 := by
          rcases HOR.out with h | h | h
          · cases h
          · cases h
          · exact h
        clear HOR
        go_wp2_with fail
        go_ret
        exact ⟨rfl, UPX.out _ B6.out⟩
  · have TK : Box' ((l1 ++ m).take (n1 + kk) = l1 ++ m.take kk) := ⟨by rw [List.take_append, N1.out, List.take_of_length_le (by have := N1.out; omega)]; congr 2; omega⟩
    have EKX : Box' (∀ w3, Below w2.heap.size w2 w3 → Evs w3.heap.size w3 (.slice ab (n1 + kk) (n1 + kk)) (l1 ++ m.take kk)) := ⟨fun w3 b => by rw [← TK.out]; exact (EBX.out w3 b).front (by rw [LA.out]; omega)⟩
    have AP1 : Box' (∀ w3 vd, Below w2.heap.size w2 w3 → InB w3.heap.size w3 vd (difF l1 (l1 ++ m)).1 → Calls Try.prog 8 #[.slice a1 n1 c1, vd] w3 fun e w' => ∃ u, e = .returned (.tuple #[u, .int .i64 0]) ∧ Evs w'.heap.size w' u (l1 ++ m) ∧ Below w3.heap.size w3 w') := ⟨fun w3 vd b hd => by
      have := AC.out w3 _ vd l1 _ LL.out.1 (Nat.le_trans (difF_len _ _) (by decide)) (EAX.out w3 b) hd
      rw [f1] at this
      exact this.mono fun e w' ⟨u, qs, q1, q2, q3, q4⟩ => ⟨u, q1, (show qs.map (·.1) = l1 ++ m from q2) ▸ q3.evs, q4⟩⟩
    have D2 : Box' (∀ w3, Below w2.heap.size w2 w3 → Calls Try.prog 6 #[.slice a1 n1 c1, .slice ab (n1 + kk) (n1 + kk)] w3 fun e w' => ∃ u, e = .returned (.tuple #[u, .int .i64 0]) ∧ InB w'.heap.size w' u (difF l1 (l1 ++ m.take kk)).1 ∧ Below w3.heap.size w3 w') := ⟨fun w3 b => by
      have := DC.out w3 _ _ l1 (l1 ++ m.take kk) LL.out.1 (LL.out.2.2 kk) (EAX.out w3 b) (EKX.out w3 b)
      rw [f2] at this
      exact this⟩
    have D3 : Box' (∀ w3, Below w2.heap.size w2 w3 → Calls Try.prog 6 #[.slice ab (n1 + kk) (n1 + kk), .slice ab (n1 + n2) cb] w3 fun e w' => ∃ u, e = .returned (.tuple #[u, .int .i64 0]) ∧ InB w'.heap.size w' u (difF (l1 ++ m.take kk) (l1 ++ m)).1 ∧ Below w3.heap.size w3 w') := ⟨fun w3 b => by
      have := DC.out w3 _ _ (l1 ++ m.take kk) (l1 ++ m) (LL.out.2.2 kk) LL.out.2.1 (EKX.out w3 b) (EBX.out w3 b)
      rw [f3] at this
      exact this⟩
    have AP2 : Box' (∀ w3 vd, Below w2.heap.size w2 w3 → InB w3.heap.size w3 vd (difF l1 (l1 ++ m.take kk)).1 → Calls Try.prog 8 #[.slice a1 n1 c1, vd] w3 fun e w' => ∃ u, e = .returned (.tuple #[u, .int .i64 0]) ∧ Evs w'.heap.size w' u (l1 ++ m.take kk) ∧ Below w3.heap.size w3 w') := ⟨fun w3 vd b hd => by
      have := AC.out w3 _ vd l1 _ LL.out.1 (Nat.le_trans (difF_len _ _) (by decide)) (EAX.out w3 b) hd
      rw [f4] at this
      exact this.mono fun e w' ⟨u, qs, q1, q2, q3, q4⟩ => ⟨u, q1, (show qs.map (·.1) = l1 ++ m.take kk from q2) ▸ q3.evs, q4⟩⟩
    have AP3 : Box' (∀ w3 vk vd, Evs w3.heap.size w3 vk (l1 ++ m.take kk) → InB w3.heap.size w3 vd (difF (l1 ++ m.take kk) (l1 ++ m)).1 → Calls Try.prog 8 #[vk, vd] w3 fun e w' => ∃ u, e = .returned (.tuple #[u, .int .i64 0]) ∧ Evs w'.heap.size w' u (l1 ++ m) ∧ Below w3.heap.size w3 w') := ⟨fun w3 vk vd hk hd => by
      have := AC.out w3 vk vd _ _ (LL.out.2.2 kk) (Nat.le_trans (difF_len _ _) (by decide)) hk hd
      rw [f5] at this
      exact this.mono fun e w' ⟨u, qs, q1, q2, q3, q4⟩ => ⟨u, q1, (show qs.map (·.1) = l1 ++ m from q2) ▸ q3.evs, q4⟩⟩
    have LS : Box' (∀ w3 u1, Below w2.heap.size w2 w3 → Evs w3.heap.size w3 u1 (l1 ++ m) → Calls Try.prog 13 #[u1, .slice ab (n1 + n2) cb] w3 fun e w' => e = .returned (.bool true) ∧ Below w3.heap.size w3 w') := ⟨fun w3 u1 b h1 => (lst_of refLists_C w3 u1 _ _ _ LL.out.2.1 LL.out.2.1 h1 (EBX.out w3 b)).mono fun e w' hh => ⟨by rw [hh.1, lstB_rfl], hh.2⟩⟩
    have BG : Box' (∀ w3 u1, Below w2.heap.size w2 w3 → Evs w3.heap.size w3 u1 (l1 ++ m) → Calls Try.prog 16 #[.slice a1 n1 c1, u1] w3 fun e w' => e = .returned (.bool true) ∧ Below w3.heap.size w3 w') := ⟨fun w3 u1 b h1 => by
      have := BC.out w3 _ u1 l1 (l1 ++ m) LL.out.1 LL.out.2.1 (EAX.out w3 b) h1
      rwa [beg_app] at this⟩
    have SL : Box' (∀ w, (Instr.sliceAt 22 (.slice ab (n1 + n2) cb) none (some (.int .i64 ((n1 : Int) + (kk : Int)))) (some (.int .i64 ((n1 : Int) + (kk : Int))))).run Try.prog w = .ok (.slice ab (n1 + kk) (n1 + kk)) w) := ⟨fun w => by
      have := run_frontE ab (n1 + n2) cb (n1 + kk) (by omega) w
      rwa [Int.natCast_add] at this⟩
    rw [hx] at d1
    clear DC AC BC EBX EAX EKX LL LA TK hx f1 f2 f3 f4 f5
    generalize (difF l1 (l1 ++ m)).1 = X1 at *
    generalize (difF l1 (l1 ++ m.take kk)).1 = X2 at *
    generalize (difF (l1 ++ m.take kk) (l1 ++ m)).1 = X3 at *
    refine d1.mono ?_
    rintro e w3 ⟨u1, rfl, i1, b3⟩
    have B3 := Box'.mk b3
    have ap := AP1.out w3 u1 b3 i1
    clear d1 b3 i1 AP1
    go_wp2_with fail
    refine ap.mono ?_
    rintro e w4 ⟨u2, rfl, e4, b4⟩
    have b4' := B3.out.trans (b4.mono B3.out.size)
    have ls := LS.out w4 u2 b4' e4
    have B4 := Box'.mk b4'
    have E4 := Box'.mk e4
    clear ap b4 b4' B3 e4
    go_wp2_with fail
    refine ls.mono ?_
    rintro e w5 ⟨rfl, b5⟩
    have b5' := B4.out.trans (b5.mono B4.out.size)
    have bg := BG.out w5 u2 b5' ((E4.out.below b5 (Nat.le_refl _)).up b5.size)
    have B5 := Box'.mk b5'
    clear ls b5 b5' B4 E4 BG
    go_wp2_with fail
    refine bg.mono ?_
    rintro e w6 ⟨rfl, b6⟩
    have b6' := B5.out.trans (b6.mono B5.out.size)
    have d2 := D2.out w6 b6'
    have B6 := Box'.mk b6'
    have l1b := L1.out
    have l2b := LM.out
    clear bg b6 b6' B5 D2
    go_wp2_with (first | (refine wpList_slice rfl 22 (.tmp 78) none (some (.tmp 79)) (some (.tmp 80)) rfl _ (SL.out _) ?_) | fail)
    refine d2.mono ?_
    rintro e w7 ⟨u3, rfl, i7, b7⟩
    have b7' := B6.out.trans (b7.mono B6.out.size)
    have d3 := D3.out w7 b7'
    have B7 := Box'.mk b7'
    have I7 := Box'.mk i7
    clear d2 b7 b7' B6 i7 D3
    go_wp2_with (first | (refine wpList_slice rfl 22 (.tmp 86) none (some (.tmp 87)) (some (.tmp 88)) rfl _ (SL.out _) ?_) | fail)
    refine d3.mono ?_
    rintro e w8 ⟨u4, rfl, i8, b8⟩
    have b8' := B7.out.trans (b8.mono B7.out.size)
    have ap := AP2.out w8 u3 b8' ((I7.out.below b8 (Nat.le_refl _)).up b8.size)
    have B8 := Box'.mk b8'
    have I8 := Box'.mk i8
    clear d3 b8 b8' B7 I7 i8 AP2 SL
    go_wp2_with fail
    refine ap.mono ?_
    rintro e w9 ⟨u5, rfl, e9, b9⟩
    have b9' := B8.out.trans (b9.mono B8.out.size)
    have ap := AP3.out w9 u5 u4 e9 ((I8.out.below b9 (Nat.le_refl _)).up b9.size)
    have B9 := Box'.mk b9'
    clear e9 b9 b9' B8 I8 AP3
    go_wp2_with fail
    refine ap.mono ?_
    rintro e w10 ⟨u6, rfl, e10, b10⟩
    have B10 := Box'.mk (B9.out.trans (b10.mono B9.out.size))
    have E10 := Box'.mk e10
    clear ap e10 b10 B9
    go_wp2_with fail
    refine (AN.out w10).mono ?_
    rintro e w11 ⟨rfl, b11⟩
    have b11' := B10.out.trans (b11.mono B10.out.size)
    have ls := LS.out w11 u6 b11' ((E10.out.below b11 (Nat.le_refl _)).up b11.size)
    have B11 := Box'.mk b11'
    clear AN b11 b11' B10 E10 LS
    go_wp2_with fail
    refine ls.mono ?_
    rintro e w12 ⟨rfl, b12⟩
    have B12 := Box'.mk (UPX.out _ (B11.out.trans (b12.mono B11.out.size)))
    clear ls b12 B11
    go_wp2_with fail
    go_ret
    exact ⟨rfl, B12.out⟩
end Go.Proofs.Ytpgljhgfoihnjaa
