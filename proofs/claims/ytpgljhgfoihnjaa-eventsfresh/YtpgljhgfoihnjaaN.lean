/- The walk of appendEvent. -/
import Derived.Test.YtpgljhgfoihnjaaK
import Derived.Test.YtpgljhgfoihnjaaGy
import Derived.Test.YtpgljhgfoihnjaaU
import Derived.Test.YtpgljhgfoihnjaaO
import Derived.Test.YtpgljhgfoihnjaaE
import Derived.Test.YtpgljhgfoihnjaaFa
import Derived.Test.YtpgljhgfoihnjaaH
namespace Go.Proofs.Ytpgljhgfoihnjaa
open Go.RowKit Go.BigFrame
set_option maxRecDepth 100000
set_option linter.unusedSimpArgs false

/-- The form of an event. -/
def evF (x : Ev) : List UInt8 := x.kind :: (if x.kind.toNat = 2 then uf x.cols.toNat ++ uf x.rows.toNat else if x.kind.toNat = 4 then [x.arr] else tx x.byt)
theorem evF_len {x : Ev} (h : x.may = true) : (evF x).length ≤ 4107 ∧ 2 ≤ (evF x).length := by
  unfold Ev.may mayN at h
  unfold evF
  split at h
  · rename_i h1; simp only [decide_eq_true_eq] at h
    rw [if_neg (by omega), if_neg (by omega)]; have := tx_len (l := x.byt) (by omega); have := uf_pos x.byt.length; simp [tx] at *; omega
  · split at h
    · rename_i h1; simp only [decide_eq_true_eq] at h
      rw [if_pos h1]
      have h2 := uf_len64 (n := x.cols.toNat) (by omega); have h3 := uf_len64 (n := x.rows.toNat) (by omega); have := uf_pos x.cols.toNat; simp; omega
    · split at h
      · rename_i h1; simp only [decide_eq_true_eq] at h
        rw [if_neg (by omega), if_neg (by omega)]; have := tx_len (l := x.byt) (by omega); have := uf_pos x.byt.length; simp [tx] at *; omega
      · split at h
        · rename_i h1; simp only [decide_eq_true_eq] at h
          rw [if_neg (by omega), if_pos h1]; simp
        · cases h

set_option maxRecDepth 100000 in
set_option maxHeartbeats 4000000 in
theorem appEvent_any (N : Nat) (w : World) (v vb : Value) (d : List UInt8) (x : Ev) (hx : x.may = true) (hN : N ≤ w.heap.size) (ho : OwnB N w v d) (hi : InE N w vb x.byt) (hd : d.length ≤ 100000) :
    Calls Try.prog 37 #[v, x.val vb] w fun e w' => ∃ v', e = .returned v' ∧ OwnB N w' v' (d ++ evF x) ∧ Fr N w w' := by
  obtain ⟨k, l, c, r, a⟩ := x
  unfold Ev.val
  simp only at hi ⊢
  obtain ⟨w0, hw0⟩ : ∃ w0, w0 = w.alloc (.cells #[.int .u8 (k.toNat : Int), vb, .int .i64 c, .int .i64 r, .int .u8 (a.toNat : Int)] 48) := ⟨_, rfl⟩
  have hr0 : Row w0 w.heap.size 48 #[.int .u8 (k.toNat : Int), vb, .int .i64 c, .int .i64 r, .int .u8 (a.toNat : Int)] := by rw [hw0]; exact Row.new _ _ _
  have hb0 : Below w.heap.size w w0 := by rw [hw0]; exact (Below.refl _ _).alloc (Nat.le_refl _) _
  have ho0 := ho.below hb0
  have hi0 := hi.below hb0 hN
  have hz0 : N ≤ (w0.alloc (.cells #[.int .u8 (k.toNat : Int)] 5)).heap.size := Nat.le_trans (Nat.le_trans hN hb0.size) (by simp)
  have R1 : Box' (∀ w2, Fr N (w0.alloc (.cells #[.int .u8 (k.toNat : Int)] 5)) w2 → Row w2 w.heap.size 48 #[.int .u8 (k.toNat : Int), vb, .int .i64 c, .int .i64 r, .int .u8 (a.toNat : Int)] ∧ Fr N w w2 ∧ InE N w2 vb l ∧ N ≤ w2.heap.size) := ⟨fun w2 f2 => ⟨f2.row (hr0.alloc _) (by decide), ((Fr.of hb0).alloc _).trans f2, hi0.below ((((Fr.refl N w0).alloc _).trans f2).below (Nat.le_trans hN hb0.size)) (Nat.le_refl _), Nat.le_trans hz0 f2.size⟩⟩
  have HO := Box'.mk (ho0.alloc (.cells #[.int .u8 (k.toNat : Int)] 5))
  have hzz : w0.heap.size = w.heap.size + 1 := by rw [hw0]; simp
  have hone := one_in w0 k
  rw [hzz] at hone
  have HI := Box'.mk hone
  clear hone hzz
  have HF : Box' (evF ⟨k, l, c, r, a⟩ = k :: (if k.toNat = 2 then uf c.toNat ++ uf r.toNat else if k.toNat = 4 then [a] else tx l)) := ⟨rfl⟩
  have HM : Box' (mayN k.toNat l.length c r a.toNat = true) := ⟨hx⟩
  generalize evF ⟨k, l, c, r, a⟩ = F at *
  obtain ⟨a0, c0, rfl⟩ := ho.slice
  obtain ⟨a1, c1, rfl, _⟩ := hi.slice
  have HL : Box' (d.length + [k].length ≤ 140737488355328) := ⟨by simp; omega⟩
  have HA : Box' ((d ++ [k]).length ≤ 100001) := ⟨by simp; omega⟩
  have HU : Box' (∀ n : Nat, n ≤ 512 → (d ++ [k] ++ uf n).length ≤ 100011) := ⟨fun n hn => by have := HA.out; rw [List.length_append]; have := uf_len64 (n := n) (by omega); omega⟩
  have HT : Box' (k.toNat ≠ 2 → k.toNat ≠ 4 → l.length ≤ 65536) := ⟨fun h1 h2 => by
    have := HM.out
    unfold mayN at this
    by_cases q1 : k.toNat = 1
    · rw [if_pos q1, decide_eq_true_eq] at this; omega
    · rw [if_neg q1, if_neg h1] at this
      by_cases q3 : k.toNat = 3
      · rw [if_pos q3, decide_eq_true_eq] at this; omega
      · rw [if_neg q3, if_neg h2] at this
        cases this⟩
  clear ho hi hx hb0 ho0 hi0 hr0 hd
  have AB : Box' (∀ v2 w2, N ≤ w2.heap.size → OwnB N w2 v2 (d ++ [k]) → InE N w2 (.slice a1 l.length c1) l → k.toNat ≠ 2 → k.toNat ≠ 4 → Calls Try.prog 50 #[v2, .slice a1 l.length c1] w2 fun e w' => ∃ v', e = .returned v' ∧ OwnB N w' v' (d ++ [k] ++ tx l) ∧ Fr N w2 w') := ⟨fun v2 w2 q1 q2 q3 q4 q5 => appBytes_any N w2 v2 _ _ l q1 q2 q3 (by have := HA.out; omega) (HT.out q4 q5)⟩
  subst hw0
  generalize d.length = dl at HO ⊢
  generalize hnl : l.length = nl at *
  clear hnl
  have APP : Box' (∀ A, A = d ++ [k] → d ++ F = A ++ (if k.toNat = 2 then uf c.toNat ++ uf r.toNat else if k.toNat = 4 then [a] else tx l)) := ⟨fun A h => by rw [h, HF.out]; simp⟩
  clear HF
  generalize hA : d ++ [k] = A at *
  have EA := Box'.mk hA
  clear hA
  by_cases h2 : k.toNat = 2
  · have hm := HM.out
    rw [mayN, if_neg (by omega), if_pos h2, decide_eq_true_eq] at hm
    obtain ⟨-, -, hc1, hc2, hr1, hr2⟩ := hm
    obtain ⟨cn, rfl⟩ : ∃ cn : Nat, c = (cn : Int) := ⟨c.toNat, by omega⟩
    obtain ⟨rn, rfl⟩ : ∃ rn : Nat, r = (rn : Int) := ⟨r.toNat, by omega⟩
    have e := APP.out A rfl
    rw [if_pos h2, Int.toNat_natCast, Int.toNat_natCast, ← List.append_assoc] at e
    have HUc := Box'.mk (HU.out cn (by omega))
    have HE := Box'.mk e
    have H2 := Box'.mk h2
    have HAL : Box' (A.length ≤ 1000000) := ⟨by have := HA.out; omega⟩
    clear e APP AB HU HM HT h2 HA
    generalize d ++ F = D at *
    go_enter Try.func37, Try.ntmps37
    go_wp2_with (refine wpList_app rfl (.tmp 5) (.tmp 8) rfl N _ hz0 _ d rfl HO.out _ [k] rfl HI.out HL.out ?_; intro v1 w1 o1 f1; obtain ⟨r1, F1, -, z1⟩ := R1.out w1 f1; rw [EA.out] at o1; obtain ⟨a2, c2, rfl⟩ := o1.slice; clear HO HI R1 f1 hz0 EA; have k0 : w1.cell? ⟨w.heap.size, 0, none⟩ = some (.int .u8 (k.toNat : Int)) := (by rw [r1.cell]; rfl); have O1 := Box'.mk o1; have RR := Box'.mk r1; have FF := Box'.mk F1; clear o1 r1 F1; have h2 := H2.out; clear H2; rw [h2] at k0 RR; clear h2; generalize A.length = al at O1 ⊢)
    generalize w.heap.size = pb at *
    refine wp_region_once 8 4 (by kernel_rfl) (by kernel_rfl) _ rfl (fun wa wb => wb = wa) (fun wa wb => Fr N wa wb) (fun wa => Fr N w1 wa) (fun wa => OwnB N wa (.slice a2 al c2) A) (fun kc wa v => match kc with
      | 0 => v = .slice a2 al c2
      | 1 => v = .pointer (some ⟨pb, 2, none⟩)
      | 2 => v = .int .i64 (cn : Int)
      | 3 => v = .int .u64 (cn : Int)
      | 4 => OwnB N wa v (A ++ uf cn)
      | 5 => v = .pointer (some ⟨pb, 3, none⟩)
      | 6 => v = .int .i64 (rn : Int)
      | 7 => v = .int .u64 (rn : Int)
      | _ => True) ?_ ?_ ?_ ?_ ?_ ?_ ?_ ?_ ?_ ?_
    · rintro wa wb rfl h; exact h
    · rintro wa wb h rfl h2; exact h2
    · rintro kc v wa wb h rfl h2; exact h2
    · intro wa wb h1 h2 h3; exact h2.trans h1
    · intro kc v wa wb hne h1 h2 h3 h4
      match kc, hne, h4 with
      | 0, _, h4 => exact h4
      | 1, _, h4 => exact h4
      | 2, _, h4 => exact h4
      | 3, _, h4 => exact h4
      | 4, hne, _ => exact absurd rfl hne
      | 5, _, h4 => exact h4
      | 6, _, h4 => exact h4
      | 7, _, h4 => exact h4
      | kc + 8, _, _ => trivial
    · exact (Fr.refl _ _).drewN 1
    · exact O1.out.drewN 1
    · refine ⟨?_, ?_, ?_, ?_, ?_, ?_, ?_, ?_, trivial⟩
      · intro hj f wq hC hd KK hK
        simp only [List.take_succ_cons, List.take_zero, setAll, List.setIfInBounds_toArray, List.set_cons_succ, List.set_cons_zero, Nat.zero_add, Nat.reduceAdd] at hK ⊢
        refine wp_of_quiet rfl ?_
        go_big_quiet_step (fail)
        exact wpQuiet_nil (hK _ _ rfl rfl)
      · intro hj f wq hC hd KK hK
        simp only [List.take_succ_cons, List.take_zero, setAll, List.setIfInBounds_toArray, List.set_cons_succ, List.set_cons_zero, Nat.zero_add, Nat.reduceAdd] at hK ⊢
        refine wp_of_quiet rfl ?_
        go_big_quiet_step (fail)
        exact wpQuiet_nil (hK _ _ rfl rfl)
      · intro hj f wq hC hd KK hK
        have g1 : f 1 = .pointer (some ⟨pb, 2, none⟩) := hd 1 rfl
        have cx : wq.cell? ⟨pb, 2, none⟩ = some (.int .i64 (cn : Int)) := by rw [(Fr.row hC RR.out (by decide)).cell]; rfl
        simp only [List.take_succ_cons, List.take_zero, setAll, List.setIfInBounds_toArray, List.set_cons_succ, List.set_cons_zero, Nat.zero_add, Nat.reduceAdd, g1] at hK ⊢
        refine wp_of_quiet rfl ?_
        go_big_quiet_step (fail)
        exact wpQuiet_nil (hK _ _ rfl rfl)
      · intro hj f wq hC hd KK hK
        have g2 : f 2 = .int .i64 (cn : Int) := hd 2 rfl
        simp only [List.take_succ_cons, List.take_zero, setAll, List.setIfInBounds_toArray, List.set_cons_succ, List.set_cons_zero, Nat.zero_add, Nat.reduceAdd, g2] at hK ⊢
        refine wp_of_quiet rfl ?_
        go_big_quiet_step (fail)
        exact wpQuiet_nil (hK _ _ rfl rfl)
      · intro hj; exact absurd rfl hj
      · intro hj f wq hC hd KK hK
        simp only [List.take_succ_cons, List.take_zero, setAll, List.setIfInBounds_toArray, List.set_cons_succ, List.set_cons_zero, Nat.zero_add, Nat.reduceAdd] at hK ⊢
        refine wp_of_quiet rfl ?_
        go_big_quiet_step (fail)
        exact wpQuiet_nil (hK _ _ rfl rfl)
      · intro hj f wq hC hd KK hK
        have g5 : f 5 = .pointer (some ⟨pb, 3, none⟩) := hd 5 rfl
        have cx : wq.cell? ⟨pb, 3, none⟩ = some (.int .i64 (rn : Int)) := by rw [(Fr.row hC RR.out (by decide)).cell]; rfl
        simp only [List.take_succ_cons, List.take_zero, setAll, List.setIfInBounds_toArray, List.set_cons_succ, List.set_cons_zero, Nat.zero_add, Nat.reduceAdd, g5] at hK ⊢
        refine wp_of_quiet rfl ?_
        go_big_quiet_step (fail)
        exact wpQuiet_nil (hK _ _ rfl rfl)
      · intro hj f wq hC hd KK hK
        have g6 : f 6 = .int .i64 (rn : Int) := hd 6 rfl
        simp only [List.take_succ_cons, List.take_zero, setAll, List.setIfInBounds_toArray, List.set_cons_succ, List.set_cons_zero, Nat.zero_add, Nat.reduceAdd, g6] at hK ⊢
        refine wp_of_quiet rfl ?_
        go_big_quiet_step (fail)
        exact wpQuiet_nil (hK _ _ rfl rfl)
    · intro f wq hC hA hd KK hK
      have g0 : f 0 = .slice a2 al c2 := hd 0 rfl
      have g3 : f 3 = .int .u64 (cn : Int) := hd 3 rfl
      simp only [List.take_succ_cons, List.take_zero, setAll, List.setIfInBounds_toArray, List.set_cons_succ, List.set_cons_zero, Nat.zero_add, Nat.reduceAdd, g0, g3] at hK ⊢
      have hq : N ≤ wq.heap.size := Nat.le_trans z1 hC.size
      exact wp_callE 49 #[.slice a2 al c2, .int .u64 (cn : Int)] (by simp [go_sem]) _ (appNum_any N wq _ A cn (by omega) hq hA HAL.out) (fun v w' hR => hK _ _ hR.1 hR.2)
    · intro f wq hC hv
      have p0 : f 0 = .slice a2 al c2 := hv 0 (by decide)
      have p1 : f 1 = .pointer (some ⟨pb, 2, none⟩) := hv 1 (by decide)
      have p2 : f 2 = .int .i64 (cn : Int) := hv 2 (by decide)
      have p3 : f 3 = .int .u64 (cn : Int) := hv 3 (by decide)
      have p4 : OwnB N wq (f 4) (A ++ uf cn) := hv 4 (by decide)
      have p5 : f 5 = .pointer (some ⟨pb, 3, none⟩) := hv 5 (by decide)
      have p6 : f 6 = .int .i64 (rn : Int) := hv 6 (by decide)
      have p7 : f 7 = .int .u64 (rn : Int) := hv 7 (by decide)
      simp only [List.take_succ_cons, List.take_zero, List.drop_succ_cons, List.drop_zero, setAll, List.setIfInBounds_toArray, List.set_cons_succ, List.set_cons_zero, Nat.zero_add, Nat.reduceAdd, p0, p1, p2, p3, p5, p6, p7]
      generalize f 4 = v4 at *
      clear hv p0 p1 p2 p3 p5 p6 p7
      have hq : N ≤ wq.heap.size := Nat.le_trans z1 hC.size
      have an := appNum_any N wq v4 _ rn (by omega) hq p4 (by have := HUc.out; omega)
      rw [← HE.out] at an
      obtain ⟨a4, c4, rfl⟩ := p4.slice
      have CC := Box'.mk (FF.out.trans hC)
      clear p4 hC HE O1 RR FF HUc
      generalize (A ++ uf cn).length = bl at *
      go_wp2_with fail
      refine an.mono ?_
      rintro e w2 ⟨v2, rfl, o2, f2⟩
      clear an
      go_wp2_with fail
      go_ret
      exact ⟨_, rfl, o2, CC.out.trans f2⟩
  · have h2' : ((k.toNat : Int) == 2) = false := by rw [beq_eq_false_iff_ne]; omega
    have APN : Box' (d ++ F = A ++ if k.toNat = 4 then [a] else tx l) := ⟨by rw [APP.out A rfl, if_neg h2]⟩
    clear APP HU
    by_cases h4 : k.toNat = 4
    · have HE : Box' (d ++ F = A ++ [a]) := ⟨by rw [APN.out, if_pos h4]⟩
      have H4 := Box'.mk h4
      have HAL : Box' (A.length + [a].length ≤ 140737488355328) := ⟨by have := HA.out; simp; omega⟩
      clear APN AB HM HT h2 h4 HA
      generalize d ++ F = D at *
      go_enter Try.func37, Try.ntmps37
      go_wp2_with (first
        | (refine wpList_app rfl (.tmp 5) (.tmp 8) rfl N _ hz0 _ d rfl HO.out _ [k] rfl HI.out HL.out ?_; intro v1 w1 o1 f1; obtain ⟨r1, F1, -, z1⟩ := R1.out w1 f1; rw [EA.out] at o1; obtain ⟨a2, c2, rfl⟩ := o1.slice; clear HO HI R1 f1 hz0 EA; have k0 : w1.cell? ⟨w.heap.size, 0, none⟩ = some (.int .u8 (k.toNat : Int)) := (by rw [r1.cell]; rfl); have k4 : w1.cell? ⟨w.heap.size, 4, none⟩ = some (.int .u8 (a.toNat : Int)) := (by rw [r1.cell]; rfl); have O1 := Box'.mk o1; have FF := Box'.mk F1; clear o1 r1 F1 h2'; have h4 := H4.out; clear H4; rw [h4] at k0; clear h4; generalize A.length = al at O1 ⊢)
        | (refine wpList_app rfl (.tmp 25) (.tmp 28) rfl N _ (Nat.le_trans z1 (by simp)) _ A rfl (O1.out.alloc _) _ [a] rfl (one_in w1 a) HAL.out ?_; intro v2 w2 o2 f2; have F2 := Box'.mk ((FF.out.alloc _).trans f2); rw [← HE.out] at o2; have O2 := Box'.mk o2; clear O1 FF k0 k4 o2 f2))
      go_ret
      exact ⟨_, rfl, O2.out, F2.out⟩
    · have HE : Box' (d ++ F = A ++ tx l) := ⟨by rw [APN.out, if_neg h4]⟩
      have h4' : ((k.toNat : Int) == 4) = false := by rw [beq_eq_false_iff_ne]; omega
      rw [← HE.out] at AB
      have H2 := Box'.mk h2
      have H4 := Box'.mk h4
      clear APN HM HT h2 h4 HE
      generalize d ++ F = D at *
      go_enter Try.func37, Try.ntmps37
      go_wp2_with (refine wpList_app rfl (.tmp 5) (.tmp 8) rfl N _ hz0 _ d rfl HO.out _ [k] rfl HI.out HL.out ?_; intro v1 w1 o1 f1; obtain ⟨r1, F1, i1, z1⟩ := R1.out w1 f1; rw [EA.out] at o1; have ab := AB.out v1 w1 z1 o1 i1 H2.out H4.out; obtain ⟨a2, c2, rfl⟩ := o1.slice; clear HO HI R1 f1 hz0 EA AB; have k0 : w1.cell? ⟨w.heap.size, 0, none⟩ = some (.int .u8 (k.toNat : Int)) := (by rw [r1.cell]; rfl); have k1 : w1.cell? ⟨w.heap.size, 1, none⟩ = some (.slice a1 nl c1) := (by rw [r1.cell]; rfl); have FF := Box'.mk F1; clear o1 r1 F1 i1; generalize A.length = al at ab ⊢)
      refine ab.mono ?_
      rintro e w2 ⟨v2, rfl, o2, f2⟩
      clear ab
      go_wp2_with fail
      go_ret
      exact ⟨_, rfl, o2, FF.out.trans f2⟩
end Go.Proofs.Ytpgljhgfoihnjaa
