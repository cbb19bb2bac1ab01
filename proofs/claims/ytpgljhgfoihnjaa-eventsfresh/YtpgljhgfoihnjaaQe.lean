/- The program's joined: lists one behind the other, each event's bytes in memory of their own. -/
import Derived.Test.YtpgljhgfoihnjaaQd
namespace Go.Proofs.Ytpgljhgfoihnjaa
open Go.RowKit Go.BigFrame
set_option maxRecDepth 100000
set_option linter.unusedSimpArgs false
set_option linter.unusedVariables false

theorem cat_mono {m : Nat} {F G : Nat → List Ev} (fs : ∀ k, k < m → F (k + 1) = F k ++ G k) : ∀ d k, k + d = m → (F k).length ≤ (F m).length := by
  intro d
  induction d with
  | zero => intro k h; rw [show k = m by omega]; exact Nat.le_refl _
  | succ d ih => intro k h; have h1 := ih (k + 1) (by omega); rw [fs k (by omega), List.length_append] at h1; omega
set_option maxHeartbeats 1000000 in
theorem joined_any (w : World) (gl m : Nat) (A : Nat → Option Addr) (C : Nat → Nat) (G F : Nat → List Ev) (c : Array Value) (hr : Row w gl 22 c) (hv : ∀ k, k < m → c[k]? = some (.slice (A k) (G k).length (C k)))
    (he : ∀ k, k < m → Evs w.heap.size w (.slice (A k) (G k).length (C k)) (G k)) (f0 : F 0 = []) (fs : ∀ k, k < m → F (k + 1) = F k ++ G k) (hl : (F m).length * 56 ≤ 140737488351232)
    (hb : ∀ k, k < m → ∀ j, j < (G k).length → ((G k).getD j Ev.none).byt.length ≤ 140737488351232) (hm : m ≤ 1000) :
    Calls Try.prog 26 #[.slice (some ⟨gl, 0, none⟩) m m] w fun e w' => ∃ (u : Value) (ps : List (Ev × Value)), e = .returned u ∧ ps.map (·.1) = F m ∧ OwnE w.heap.size w' u ps ∧ Below w.heap.size w w' := by
  have CE : Box' (∀ wr, Below w.heap.size w wr → ∀ k, k < m → wr.cell? ⟨gl, k, none⟩ = some (.slice (A k) (G k).length (C k))) := ⟨fun wr b k hk => by
    rw [(hr.below b hr.lt).cell]; exact hv k hk⟩
  have CL : Box' (∀ k, k < m → (F (k + 1)).length = (F k).length + (G k).length ∧ (F (k + 1)).length ≤ 2513169434843 ∧ (G k).length ≤ C k) := ⟨fun k hk => by
    have h1 := cat_mono fs (m - (k + 1)) (k + 1) (by omega)
    refine ⟨by rw [fs k hk, List.length_append], by omega, ?_⟩
    obtain ⟨a, c, e, h2, _⟩ := he k hk
    injection e with _ _ e3
    omega⟩
  have HE : Box' (∀ k, k < m → ∀ wr, Below w.heap.size w wr → ∀ j, j < (G k).length → ∃ b o vb, A k = some ⟨b, o, none⟩ ∧ b < w.heap.size ∧ wr.cell? ⟨b, o + j * 5, none⟩ = some (.int .u8 (((G k).getD j Ev.none).kind.toNat : Int)) ∧ wr.cell? ⟨b, o + j * 5 + 1, none⟩ = some vb ∧ wr.cell? ⟨b, o + j * 5 + 2, none⟩ = some (.int .i64 ((G k).getD j Ev.none).cols) ∧ wr.cell? ⟨b, o + j * 5 + 3, none⟩ = some (.int .i64 ((G k).getD j Ev.none).rows) ∧ wr.cell? ⟨b, o + j * 5 + 4, none⟩ = some (.int .u8 (((G k).getD j Ev.none).arr.toNat : Int)) ∧ InE w.heap.size wr vb ((G k).getD j Ev.none).byt ∧ ((G k).getD j Ev.none).byt.length ≤ 140737488351232) := ⟨fun k hk wr b j hj => by
    obtain ⟨a, c, e, _, h3⟩ := (he k hk).below b (Nat.le_refl _)
    obtain ⟨b', o, e', hbN, vb, q1, q2, q3, q4, q5, q6⟩ := h3 j hj
    injection e with e1 _ _
    exact ⟨b', o, vb, by rw [e1, e'], hbN, q1, q2, q3, q4, q5, q6, hb k hk j hj⟩⟩
  have F0 : Box' (F 0 = [] ∧ (F 0).length = 0) := ⟨f0, by rw [f0]; rfl⟩
  have FS := Box'.mk fs
  have HM := Box'.mk hm
  clear hr hv he f0 fs hl hb hm
  go_enter Try.func26, Try.ntmps26
  go_wp2_with fail
  go_loopw [3, 14] (fun u i wr => ∃ k : Nat, u = .int .i64 ((F k).length : Int) ∧ i = .int .i64 (k : Int) ∧ k ≤ m ∧ Box' (Below w.heap.size w wr)) (fun _ i _ => m - (intOf i).toNat)
  case atStart => exact ⟨0, by rw [F0.out.2]; rfl, rfl, Nat.zero_le _, ⟨Below.refl _ _⟩⟩
  case round =>
    obtain ⟨k, rfl, rfl, hk, BB⟩ := hrel
    have hm := HM.out
    by_cases hlt : k < m
    · have ce := CE.out wr BB.out k hlt
      obtain ⟨c1, c2, c3⟩ := CL.out k hlt
      have C1 := Box'.mk c1
      have hq : (F k).length + (G k).length ≤ 2513169434843 := by omega
      clear CE CL HE F0 FS HM c1 c2
      generalize (G k).length = g at *
      generalize (F k).length = f at *
      go_wp2_with fail
      exact ⟨⟨k + 1, by rw [C1.out]; go_num, by go_num, by omega, BB⟩, by simp [intOf]; omega⟩
    · obtain rfl : k = m := by omega
      have hN : Box' ((F k).length ≤ 2513169434843) := ⟨by
        rcases Nat.eq_zero_or_pos k with h | h
        · subst h; rw [F0.out.2]; omega
        · have h1 := (CL.out (k - 1) (by omega)).2.1
          rwa [show k - 1 + 1 = k by omega] at h1⟩
      obtain ⟨ti, t1, t2, t3, t4⟩ := Try.info55a
      generalize hn : (F k).length = n at *
      have hn' := hN.out
      have HNN := Box'.mk hn
      clear hn
      go_upto_region 8 with (first
        | (refine wpList_make_own _ rfl (.const (.int .i64 0)) (.tmp 23) 22 rfl w.heap.size 48 ti _ 5 Try.underlying22 t1 t2 t3 .i64 .i64 _ n rfl rfl rfl (by rw [t4]; omega) (by unfold maxLen; omega) BB.out.size ?_; intro w1 o1 g1
           have O1 : Box' (OwnE w.heap.size w1 (.slice (some ⟨wr.heap.size, 0, Option.none⟩) 0 n) []) := ⟨⟨o1, by simp, List.Pairwise.nil⟩⟩
           have B1 : Box' (Below w.heap.size w w1) := ⟨BB.out.trans ⟨g1.os, g1.tape, g1.output, g1.size, fun q hq => g1.block q (by have := BB.out.size; omega) (by simp)⟩⟩
           clear o1 g1)
        | fail)
      obtain ⟨w2, hw2⟩ : ∃ w2, w2 = w1.alloc (.cells #[.slice (some ⟨wr.heap.size, 0, Option.none⟩) 0 n] 22) := ⟨_, rfl⟩
      rw [← hw2]
      have b2 : Below w1.heap.size w1 w2 := by rw [hw2]; exact (Below.refl _ _).alloc (Nat.le_refl _) _
      have r2 : Row w2 w1.heap.size 22 #[.slice (some ⟨wr.heap.size, 0, Option.none⟩) 0 n] := by rw [hw2]; exact Row.new _ _ _
      have R2 := Box'.mk r2
      have O2 := Box'.mk (O1.out.below b2)
      have B2 := Box'.mk (B1.out.trans (b2.mono B1.out.size))
      have HG : Box' (w.heap.size ≤ w1.heap.size) := ⟨B1.out.size⟩
      generalize hv2 : Value.slice (some ⟨wr.heap.size, 0, Option.none⟩) 0 n = v2 at *
      clear hv2 hw2 b2 r2 O1 B1 BB t1 t2 t3 t4 hn'
      generalize w1.heap.size = gO at *
      go_wp2_with fail
      go_loopw [28] (fun i wx => ∃ (p : Nat) (v : Value) (ps : List (Ev × Value)), i = .int .i64 (p : Int) ∧ p ≤ k ∧ Box' (Row wx gO 22 #[v]) ∧ Box' (OwnE w.heap.size wx v ps) ∧ Box' (ps.map (·.1) = F p) ∧ Box' (Below w.heap.size w wx)) (fun i _ => k - (intOf i).toNat)
      case atStart => exact ⟨0, v2, [], rfl, Nat.zero_le _, R2, O2, ⟨by rw [F0.out.1]; rfl⟩, B2⟩
      case round =>
        obtain ⟨p, v, ps, rfl, hp, RX, OX, PX, BX⟩ := hrel
        by_cases hpk : p < k
        · have ce := CE.out wr BX.out p hpk
          have HEP := Box'.mk (HE.out p hpk)
          obtain ⟨c1, c2, c3⟩ := CL.out p hpk
          have TK : Box' (∀ q, q < (G p).length → ∀ x, x = (G p).getD q Ev.none → (G p).take q ++ [x] = (G p).take (q + 1)) := ⟨fun q hq x hx => by
            rw [List.take_add_one, List.getElem?_eq_getElem hq, hx, show (G p).getD q Ev.none = (G p)[q] by simp [hq]]
            rfl⟩
          have LE : Box' (∀ ps : List (Ev × Value), ∀ q, q < (G p).length → ps.map (·.1) = F p ++ (G p).take q → (ps.length + 1) * 56 ≤ 140737488355328) := ⟨fun ps q hq h => by
            have h1 := congrArg List.length h
            rw [List.length_map, List.length_append, List.length_take] at h1
            omega⟩
          have FE : Box' (∀ ps : List (Ev × Value), ps.map (·.1) = F p ++ (G p).take (G p).length → ps.map (·.1) = F (p + 1)) := ⟨fun ps h => by rw [h, List.take_length, FS.out p hpk]⟩
          have GLN : Box' ((G p).length ≤ C p ∧ (G p).length ≤ 2513169434843) := ⟨c3, by omega⟩
          clear CE CL HE FS c1 c2 c3 R2 O2 B2 F0
          generalize hgl : (G p).length = g at *
          clear hgl
          go_wp2_with fail
          go_loopw [34] (fun i wy => ∃ (q : Nat) (v : Value) (ps : List (Ev × Value)), i = .int .i64 (q : Int) ∧ q ≤ g ∧ Box' (Row wy gO 22 #[v]) ∧ Box' (OwnE w.heap.size wy v ps) ∧ Box' (ps.map (·.1) = F p ++ (G p).take q) ∧ Box' (Below w.heap.size w wy)) (fun i _ => g - (intOf i).toNat)
          case atStart => exact ⟨0, v, ps, rfl, Nat.zero_le _, RX, OX, ⟨by rw [PX.out]; simp⟩, BX⟩
          case round =>
            clear RX OX PX BX ce
            obtain ⟨q, v, ps, rfl, hq, RX, OX, PX, BX⟩ := hrel
            by_cases hqg : q < g
            · obtain ⟨b, o, vb, hA, hbN, q1, q2, q3, q4, q5, q6, hbl⟩ := HEP.out wr BX.out q hqg
              have tk := Box'.mk (TK.out q hqg _ rfl)
              have hmx := LE.out ps q hqg PX.out
              have gl2 := GLN.out.2
              have gq : (q : Int) + 1 ≤ 2513169434843 := by omega
              clear HEP TK LE FE GLN
              rw [hA]
              clear hA
              generalize (G p).getD q Ev.none = x at *
              obtain ⟨wa, hwa⟩ : ∃ wa, wa = wr.alloc (.cells #[.int .u8 (x.kind.toNat : Int), vb, .int .i64 x.cols, .int .i64 x.rows, .int .u8 (x.arr.toNat : Int)] 48) := ⟨_, rfl⟩
              have ba : Below wr.heap.size wr wa := by rw [hwa]; exact (Below.refl _ _).alloc (Nat.le_refl _) _
              have ra : Row wa wr.heap.size 48 #[.int .u8 (x.kind.toNat : Int), vb, .int .i64 x.cols, .int .i64 x.rows, .int .u8 (x.arr.toNat : Int)] := by rw [hwa]; exact Row.new _ _ _
              have RA := Box'.mk ra
              have BA := Box'.mk (BX.out.trans (ba.mono BX.out.size))
              have pt := put_any w.heap.size gO wa v ps x vb HG.out BA.out.size (RX.out.below ba RX.out.lt) (OX.out.below ba) (q6.below (ba.mono BX.out.size) (Nat.le_refl _)) hbl hmx
              obtain ⟨ax, cx, rfl, _⟩ := q6.slice
              unfold Ev.val at pt
              clear ba ra q6 RX OX hmx hbl BX
              go_upto_region 15 with fail
              rw [← hwa]
              clear hwa q1 q2 q3 q4 q5
              go_wp2_with (first
                | (refine wpList_load_row rfl 48 (.tmp 11) rfl wr.heap.size rfl 48 _ RA.out _ Try.underlying48 rfl 5 (by kernel_rfl) rfl ?_)
                | fail)
              refine pt.mono ?_
              rintro e w3 ⟨rfl, v3, vb3, r3, o3, b3⟩
              have R3 := Box'.mk r3
              have O3 := Box'.mk o3
              have B3 := Box'.mk (BA.out.trans b3)
              have P3 : Box' ((ps ++ [(x, vb3)]).map (·.1) = F p ++ (G p).take (q + 1)) := ⟨by rw [List.map_append, PX.out, ← tk.out, List.append_assoc]; rfl⟩
              clear pt r3 o3 b3 RA BA PX tk
              go_wp2_with fail
              exact ⟨⟨q + 1, v3, _, by go_num, by omega, R3, O3, P3, B3⟩, by simp [intOf]; omega⟩
            · obtain rfl : q = g := by omega
              have FE' := Box'.mk (FE.out ps PX.out)
              clear HEP TK LE FE
              go_wp2_with fail
              exact ⟨⟨p + 1, v, ps, by go_num, by omega, RX, OX, FE', BX⟩, by simp [intOf]; omega⟩
        · obtain rfl : p = k := by omega
          have k0 : wr.cell? ⟨gO, 0, none⟩ = some v := by rw [RX.out.cell]; rfl
          obtain ⟨av, cv, rfl⟩ := OX.out.slice
          clear CE CL HE FS F0 R2 O2 B2 HG
          go_wp2_with fail
          go_ret
          exact ⟨_, ps, rfl, PX.out, OX.out, BX.out⟩
end Go.Proofs.Ytpgljhgfoihnjaa
