/- The walks of appendBytes, Text and Write. -/
import Derived.Test.YtciiaopbghjcnaaFa
namespace Go.Proofs.Ytciiaopbghjcnaa
open Go.RowKit Go.BigFrame
set_option linter.unusedSimpArgs false

/-- The form of bytes. -/
def tx (l : List UInt8) : List UInt8 := uf l.length ++ l
theorem tx_len {l : List UInt8} (h : l.length ≤ 65536) : (tx l).length ≤ l.length + 10 := by
  unfold tx; rw [List.length_append]; have := uf_len64 (n := l.length) (by omega); omega

set_option maxRecDepth 100000 in
set_option maxHeartbeats 2000000 in
theorem appBytes_any (N : Nat) (w : World) (v vb : Value) (d l : List UInt8) (hN : N ≤ w.heap.size) (ho : OwnB N w v d) (hi : InE N w vb l) (hd : d.length ≤ 1000000) (hl : l.length ≤ 65536) :
    Calls Try.prog 34 #[v, vb] w fun e w' => ∃ v', e = .returned v' ∧ OwnB N w' v' (d ++ tx l) ∧ Fr N w w' := by
  have hc := appNum_any N w v d l.length (by omega) hN ho hd
  have HD : Box' (∀ A : List UInt8, A = d ++ uf l.length → A ++ l = d ++ tx l ∧ A.length + l.length ≤ 140737488355328) := ⟨fun A h => by
    subst h
    refine ⟨by unfold tx; rw [List.append_assoc], ?_⟩
    rw [List.length_append]; have := uf_len64 (n := l.length) (by omega); omega⟩
  have HI : Box' (∀ w1, Fr N w w1 → InE N w1 vb l ∧ N ≤ w1.heap.size) := ⟨fun w1 f => ⟨hi.below (f.below hN) (Nat.le_refl _), Nat.le_trans hN f.size⟩⟩
  obtain ⟨a0, c0, rfl⟩ := ho.slice
  obtain ⟨a1, c1, rfl, _⟩ := hi.slice
  clear ho hi
  generalize d ++ tx l = D at *
  generalize hA : d ++ uf l.length = A at *
  have H2 := Box'.mk (HD.out A rfl)
  clear HD hA
  generalize d.length = dl at *
  go_enter Try.func34, Try.ntmps34
  go_wp2_with fail
  refine hc.mono ?_
  rintro e w1 ⟨v1, rfl, o1, f1⟩
  clear hc
  obtain ⟨h1, h2⟩ := HI.out w1 f1
  have F1 := Box'.mk f1
  clear HI f1
  go_wp2_with (refine wpList_appE rfl (.tmp 9) (.tmp 10) rfl N N h2 _ A rfl o1 _ l rfl h1 H2.out.2 ?_; intro v2 w2 o2 f2)
  have o3 := o2
  rw [H2.out.1] at o3
  have F2 := F1.out.trans f2
  go_ret
  exact ⟨_, rfl, o3, F2⟩

set_option maxRecDepth 100000 in
set_option maxHeartbeats 2000000 in
theorem text_any (N : Nat) (w : World) (vb : Value) (l : List UInt8) (hN : N ≤ w.heap.size) (hi : InE N w vb l) (hl : l.length ≤ 65536) :
    Calls Try.prog 35 #[vb] w fun e w' => ∃ v', e = .returned v' ∧ OwnB w.heap.size w' v' (tx l) ∧ Below w.heap.size w w' := by
  have hc := refUint_any l.length (by omega) w
  have HD : Box' (uf l.length ++ l = tx l ∧ (uf l.length).length + l.length ≤ 140737488355328) := ⟨rfl, by have := uf_len64 (n := l.length) (by omega); omega⟩
  have HI : Box' (∀ w1, Below w.heap.size w w1 → InE w1.heap.size w1 vb l) := ⟨fun w1 f => (hi.below f hN).up (Nat.le_trans hN f.size)⟩
  obtain ⟨a1, c1, rfl, _⟩ := hi.slice
  clear hi
  generalize tx l = D at *
  generalize uf l.length = A at *
  go_enter Try.func35, Try.ntmps35
  go_wp2_with fail
  refine hc.mono ?_
  rintro e w1 ⟨v1, rfl, o1, f1⟩
  clear hc
  have h1 := HI.out w1 f1
  have F1 := Box'.mk f1
  have hz := f1.size
  clear HI f1
  go_wp2_with (refine wpList_appE rfl (.tmp 6) (.tmp 7) rfl w.heap.size w1.heap.size hz _ A rfl o1 _ l rfl h1 HD.out.2 ?_; intro v2 w2 o2 f2)
  have o3 := o2
  rw [HD.out.1] at o3
  have F2 := F1.out.trans (f2.below hz)
  go_ret
  exact ⟨_, rfl, o3, F2⟩

/-- An instruction. -/
structure Ins where
  old : Nat
  new : Nat
  ack : Nat
  thr : Nat
  dif : List UInt8
structure Ins.ok (x : Ins) : Prop where
  old : x.old < 18446744073709551616
  new : x.new < 18446744073709551616
  ack : x.ack < 18446744073709551616
  thr : x.thr < 18446744073709551616
/-- Its form. -/
def insF (x : Ins) : List UInt8 := uf x.old ++ (uf x.new ++ (uf x.ack ++ (uf x.thr ++ tx x.dif)))
/-- What Write answers. -/
def wrF (x : Ins) : List UInt8 × Int := if 65536 < x.dif.length then ([], 2) else (insF x, 0)

theorem Try.size22 : (Try.prog.info? 22).map (·.size) = some 1 := by kernel_rfl
/-- The first k numbers' forms. -/
def dk (l : List Nat) (k : Nat) : List UInt8 := ((l.take k).map uf).flatten
theorem dk_step (l : List Nat) (k : Nat) (h : k < l.length) : dk l (k + 1) = dk l k ++ uf (l.getD k 0) := by
  unfold dk
  rw [List.take_succ_eq_append_getElem h, List.map_append, List.flatten_append]
  simp [h]
theorem dk_len (l : List Nat) (hl : ∀ x ∈ l, x < 18446744073709551616) (k : Nat) (hk : k ≤ l.length) : (dk l k).length ≤ 10 * k := by
  induction k with
  | zero => simp [dk]
  | succ k ih =>
    rw [dk_step l k hk, List.length_append]
    have h1 := ih (by omega)
    have h2 := uf_len64 (hl (l.getD k 0) (by simp [show k < l.length from hk]))
    omega

set_option maxRecDepth 100000 in
set_option maxHeartbeats 4000000 in
theorem write_any (N : Nat) (w : World) (vd : Value) (x : Ins) (hx : x.ok) (hN : N ≤ w.heap.size) (hi : InB N w vd x.dif) :
    Calls Try.prog 15 #[.agg #[.int .u64 (x.old : Int), .int .u64 (x.new : Int), .int .u64 (x.ack : Int), .int .u64 (x.thr : Int), vd]] w fun e w' => ∃ u, e = .returned (.tuple #[u, .int .i64 (wrF x).2]) ∧ OwnB w.heap.size w' u (wrF x).1 ∧ Below w.heap.size w w' := by
  obtain ⟨x0, x1, x2, x3, l⟩ := x
  obtain ⟨h0, h1, h2, h3⟩ := hx
  simp only at h0 h1 h2 h3 hi ⊢
  have HW : Box' (wrF ⟨x0, x1, x2, x3, l⟩ = if 65536 < l.length then ([], 2) else (insF ⟨x0, x1, x2, x3, l⟩, 0)) := ⟨rfl⟩
  generalize wrF ⟨x0, x1, x2, x3, l⟩ = R at *
  by_cases hl : 65536 < l.length
  · have e := HW.out
    rw [if_pos hl] at e
    subst e
    obtain ⟨a1, c1, rfl, _⟩ := hi.slice
    clear HW hi
    generalize l.length = n at *
    go_enter Try.func15, Try.ntmps15
    go_wp2_with fail
    go_ret2
    exact ⟨_, rfl, OwnB.nil _ _, (Below.refl _ _).alloc (Nat.le_refl _) _⟩
  · have HE : Box' (∀ D, D = insF ⟨x0, x1, x2, x3, l⟩ → R = (D, 0)) := ⟨fun D h => by rw [HW.out, if_neg hl, h]⟩
    clear HW
    have hb : Below w.heap.size w (w.alloc (.cells #[.int .u64 (x0 : Int), .int .u64 (x1 : Int), .int .u64 (x2 : Int), .int .u64 (x3 : Int), vd] 34)) := (Below.refl _ _).alloc (Nat.le_refl _) _
    have hrw : Row (w.alloc (.cells #[.int .u64 (x0 : Int), .int .u64 (x1 : Int), .int .u64 (x2 : Int), .int .u64 (x3 : Int), vd] 34)) w.heap.size 34 #[.int .u64 (x0 : Int), .int .u64 (x1 : Int), .int .u64 (x2 : Int), .int .u64 (x3 : Int), vd] := Row.new _ _ _
    have hz : (w.alloc (.cells #[.int .u64 (x0 : Int), .int .u64 (x1 : Int), .int .u64 (x2 : Int), .int .u64 (x3 : Int), vd] 34)).heap.size = w.heap.size + 1 := by simp
    have hi2 := (hi.below hb hN).up (Nat.le_trans hN (Nat.le_succ _))
    obtain ⟨a1, c1, rfl, _⟩ := hi.slice
    have HL : Box' (∀ k, k ≤ 4 → (dk [x0, x1, x2, x3] k).length ≤ 40) := ⟨fun k hk => Nat.le_trans (dk_len _ (by simp; exact ⟨h0, h1, h2, h3⟩) k (by simpa using hk)) (by omega)⟩
    have HS : Box' (∀ k, k < 4 → dk [x0, x1, x2, x3] (k + 1) = dk [x0, x1, x2, x3] k ++ uf ([x0, x1, x2, x3].getD k 0)) := ⟨fun k hk => dk_step _ k (by simpa using hk)⟩
    have H4 : Box' (R = (dk [x0, x1, x2, x3] 4 ++ tx l, 0)) := ⟨HE.out _ (by simp [dk, insF])⟩
    have H0 : Box' (dk [x0, x1, x2, x3] 0 = []) := ⟨by simp [dk]⟩
    have HZ := Box'.mk hz
    have B0 := Box'.mk hb
    have I0 := Box'.mk hi2
    have R0 := Box'.mk hrw
    clear hi HE hz hb hi2 hrw
    go_enter Try.func15, Try.ntmps15
    go_wp2_with fail
    obtain ⟨w0, hw0⟩ : ∃ w0, w0 = w.alloc (.cells #[.int .u64 (x0 : Int), .int .u64 (x1 : Int), .int .u64 (x2 : Int), .int .u64 (x3 : Int), .slice a1 l.length c1] 34) := ⟨_, rfl⟩
    have hll : l.length ≤ 65536 := by omega
    rw [← hw0] at HZ B0 I0 R0 ⊢
    clear hw0
    generalize hn : l.length = n at *
    have Hn := Box'.mk hn
    clear hn
    go_loopw [4, 20] (fun u i wr => ∃ (k : Nat) (d : List UInt8), k ≤ 4 ∧ i = .int .i64 (k : Int) ∧ Box' (d = dk [x0, x1, x2, x3] k) ∧ Box' (OwnB (w.heap.size + 1) wr u d) ∧ Fr (w.heap.size + 1) w0 wr) (fun _ i _ => 4 - (intOf i).toNat)
    case atStart => exact ⟨0, [], by omega, rfl, ⟨H0.out.symm⟩, ⟨OwnB.nil _ _⟩, Fr.refl _ _⟩
    case round =>
      obtain ⟨k, d, hk, rfl, HD, HO, hf⟩ := hrel
      have hN1 : w.heap.size + 1 ≤ wr.heap.size := by have := hf.size; have := HZ.out; omega
      have hdl : d.length ≤ 40 := by rw [HD.out]; exact HL.out k hk
      have AN := Box'.mk (fun n hn => appNum_any (w.heap.size + 1) wr u4 d n hn hN1 HO.out (by omega))
      obtain ⟨a2, c2, rfl⟩ := HO.out.slice
      have HF := Box'.mk hf
      by_cases h4 : k = 4
      · subst h4
        have r1 := HF.out.row R0.out (by decide)
        have c4 : wr.cell? ⟨w.heap.size, 4, none⟩ = some (.slice a1 n c1) := by rw [r1.cell]; rfl
        have i1 := (I0.out.below (HF.out.below (by rw [HZ.out]; exact Nat.le_refl _)) (Nat.le_refl _))
        have ab := appBytes_any (w.heap.size + 1) wr (.slice a2 d.length c2) (.slice a1 n c1) d l hN1 HO.out i1.inE (by omega) (by rw [Hn.out]; exact hll)
        have HR : Box' (R = (d ++ tx l, 0)) := ⟨by rw [HD.out]; exact H4.out⟩
        clear HL HS H4 H0 AN HD HO r1 i1 R0 I0
        generalize d ++ tx l = D at *
        generalize d.length = dl at *
        have e := HR.out
        subst e
        clear HR hf
        go_wp2_with fail
        refine ab.mono ?_
        rintro e w2 ⟨v2, rfl, o2, f2⟩
        clear ab
        have B2 := (B0.out.trans ((HF.out.trans f2).below (by rw [HZ.out]; exact Nat.le_refl _) |>.mono (Nat.le_succ _)))
        have o3 := o2.less (Nat.le_succ w.heap.size)
        have BB := Box'.mk B2
        have OO := Box'.mk o3
        clear o2 f2 B2 o3 HF B0
        go_wp2_with fail
        go_ret2
        exact ⟨_, rfl, OO.out, BB.out⟩
      · have hs := HS.out k (by omega)
        rw [← HD.out] at hs
        have hd' : Box' (∀ d2, d2 = d ++ uf ([x0, x1, x2, x3].getD k 0) → d2 = dk [x0, x1, x2, x3] (k + 1)) := ⟨fun d2 h => by rw [h, hs]⟩
        clear hs HL HS H4 H0 HD
        generalize d.length = dl at *
        rcases (show k = 0 ∨ k = 1 ∨ k = 2 ∨ k = 3 by omega) with rfl | rfl | rfl | rfl
        · have an := AN.out x0 h0
          clear AN
          have hix : (Instr.index 66 (.agg #[.int .u64 (x0 : Int), .int .u64 (x1 : Int), .int .u64 (x2 : Int), .int .u64 (x3 : Int)]) (.int .i64 0)).run Try.prog wr = .ok (.int .u64 (x0 : Int)) wr := run_index_arr _ 66 22 4 _ 0 _ .i64 .u64 Try.underlying66 Try.underlying22 Try.size22 (by decide) rfl
          go_wp2_with fail
          refine an.mono ?_
          rintro e w2 ⟨v2, rfl, o2, f2⟩
          clear an
          go_wp2_with fail
          exact ⟨⟨1, _, by omega, by go_num, ⟨hd'.out _ rfl⟩, ⟨o2⟩, HF.out.trans f2⟩, by simp [intOf]⟩
        · have an := AN.out x1 h1
          clear AN
          have hix : (Instr.index 66 (.agg #[.int .u64 (x0 : Int), .int .u64 (x1 : Int), .int .u64 (x2 : Int), .int .u64 (x3 : Int)]) (.int .i64 1)).run Try.prog wr = .ok (.int .u64 (x1 : Int)) wr := run_index_arr _ 66 22 4 _ 1 _ .i64 .u64 Try.underlying66 Try.underlying22 Try.size22 (by decide) rfl
          go_wp2_with fail
          refine an.mono ?_
          rintro e w2 ⟨v2, rfl, o2, f2⟩
          clear an
          go_wp2_with fail
          exact ⟨⟨2, _, by omega, by go_num, ⟨hd'.out _ rfl⟩, ⟨o2⟩, HF.out.trans f2⟩, by simp [intOf]⟩
        · have an := AN.out x2 h2
          clear AN
          have hix : (Instr.index 66 (.agg #[.int .u64 (x0 : Int), .int .u64 (x1 : Int), .int .u64 (x2 : Int), .int .u64 (x3 : Int)]) (.int .i64 2)).run Try.prog wr = .ok (.int .u64 (x2 : Int)) wr := run_index_arr _ 66 22 4 _ 2 _ .i64 .u64 Try.underlying66 Try.underlying22 Try.size22 (by decide) rfl
          go_wp2_with fail
          refine an.mono ?_
          rintro e w2 ⟨v2, rfl, o2, f2⟩
          clear an
          go_wp2_with fail
          exact ⟨⟨3, _, by omega, by go_num, ⟨hd'.out _ rfl⟩, ⟨o2⟩, HF.out.trans f2⟩, by simp [intOf]⟩
        · have an := AN.out x3 h3
          clear AN
          have hix : (Instr.index 66 (.agg #[.int .u64 (x0 : Int), .int .u64 (x1 : Int), .int .u64 (x2 : Int), .int .u64 (x3 : Int)]) (.int .i64 3)).run Try.prog wr = .ok (.int .u64 (x3 : Int)) wr := run_index_arr _ 66 22 4 _ 3 _ .i64 .u64 Try.underlying66 Try.underlying22 Try.size22 (by decide) rfl
          go_wp2_with fail
          refine an.mono ?_
          rintro e w2 ⟨v2, rfl, o2, f2⟩
          clear an
          go_wp2_with fail
          exact ⟨⟨4, _, by omega, by go_num, ⟨hd'.out _ rfl⟩, ⟨o2⟩, HF.out.trans f2⟩, by simp [intOf]⟩
end Go.Proofs.Ytciiaopbghjcnaa
