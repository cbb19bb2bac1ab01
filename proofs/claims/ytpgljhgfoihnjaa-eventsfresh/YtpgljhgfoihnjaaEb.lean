/- Events of one's own in a row; the walk of events. -/
import Derived.Test.YtpgljhgfoihnjaaEa
import Derived.Test.YtpgljhgfoihnjaaU
import Derived.Test.YtpgljhgfoihnjaaO
import Derived.Test.YtpgljhgfoihnjaaE
import Derived.Test.YtpgljhgfoihnjaaFa
import Derived.Test.YtpgljhgfoihnjaaH
import Derived.Test.YtpgljhgfoihnjaaN
import Derived.Test.YtpgljhgfoihnjaaOz
import Derived.Test.YtpgljhgfoihnjaaR
import Derived.Test.YtpgljhgfoihnjaaS
import Derived.Test.YtpgljhgfoihnjaaT
import Derived.Test.YtpgljhgfoihnjaaY
import Derived.Test.YtpgljhgfoihnjaaEd
namespace Go.Proofs.Ytpgljhgfoihnjaa
open Go.RowKit Go.BigFrame
set_option maxRecDepth 100000
set_option linter.unusedSimpArgs false

/-- The cells of an event whose bytes lie behind vb. -/
def evC (x : Ev) (vb : Value) : List Value := [.int .u8 (x.kind.toNat : Int), vb, .int .i64 x.cols, .int .i64 x.rows, .int .u8 (x.arr.toNat : Int)]
/-- A row of events of one's own, each with bytes of its own. -/
structure OwnE (N : Nat) (w : World) (v : Value) (l : List (Ev × Value)) : Prop where
  row : w.ownsRow N 48 5 v l.length (l.flatMap fun p => evC p.1 p.2)
  own : ∀ p ∈ l, OwnB N w p.2 p.1.byt
  dis : l.Pairwise fun p q => ∀ g, p.2.ownBlock = some g → q.2.ownBlock ≠ some g
theorem OwnE.nil (N : Nat) (w : World) : OwnE N w (.slice none 0 0) [] := ⟨⟨rfl, .inl ⟨rfl, rfl⟩⟩, by simp, List.Pairwise.nil⟩
theorem OwnE.lt {N : Nat} {w : World} {v : Value} {l : List (Ev × Value)} (h : OwnE N w v l) : ∀ g, v.ownBlock = some g → N ≤ g ∧ ∃ cur, Row w g 48 cur := by
  intro k hk
  rcases h.row.2 with ⟨e, _⟩ | ⟨g, cap, cur, e1, e2, e3, _⟩
  · rw [e] at hk; simp [Value.ownBlock] at hk
  · rw [e1] at hk; simp [Value.ownBlock] at hk; subst hk; exact ⟨e2, cur, e3⟩
theorem OwnE.same {N : Nat} {w w' : World} {v : Value} {l : List (Ev × Value)} (h : OwnE N w v l) (hb : ∀ g, v.ownBlock = some g → w'.heap[g]? = w.heap[g]?) (ho : ∀ p ∈ l, OwnB N w' p.2 p.1.byt) : OwnE N w' v l := by
  refine ⟨⟨h.row.1, ?_⟩, ho, h.dis⟩
  rcases h.row.2 with h2 | ⟨g, cap, cur, e1, e2, e3, e4⟩
  · exact .inl h2
  · exact .inr ⟨g, cap, cur, e1, e2, by rw [hb g (by rw [e1]; rfl)]; exact e3, e4⟩
theorem OwnE.below {N : Nat} {w w' : World} {v : Value} {l : List (Ev × Value)} (h : OwnE N w v l) (hb : Below w.heap.size w w') : OwnE N w' v l :=
  h.same (fun g hg => let ⟨_, _, r⟩ := h.lt g hg; hb.block g r.lt) fun p hp => (h.own p hp).below hb
/-- Only the reader's block is turned. -/
theorem OwnE.gb {M N rb rv : Nat} {w w' : World} {v : Value} {l : List (Ev × Value)} {t : List UInt8} (h : OwnE M w v l) (hr : Rdr N w rb rv t) (g : Gb rb w w') : OwnE M w' v l := by
  obtain ⟨vr, r, _⟩ := hr.row
  refine h.same (fun k hk => ?_) fun p hp => (h.own p hp).same fun k hk => ?_
  · obtain ⟨_, cur, r2⟩ := h.lt k hk
    refine g.block k r2.lt fun e => ?_
    injection e with e
    subst e
    unfold Row at r r2
    rw [r] at r2
    simp at r2
  · obtain ⟨_, cur, r2⟩ := (h.own p hp).lt k hk
    refine g.block k r2.lt fun e => ?_
    injection e with e
    subst e
    unfold Row at r r2
    rw [r] at r2
    simp at r2
theorem OwnE.slice {N : Nat} {w : World} {v : Value} {l : List (Ev × Value)} (h : OwnE N w v l) : ∃ a c, v = .slice a l.length c := by
  rcases h.row.2 with ⟨e, e0⟩ | ⟨g, cap, cur, e1, _⟩
  · exact ⟨none, 0, by rw [e, e0]⟩
  · exact ⟨_, _, e1⟩
theorem Try.info55a : ∃ i, Try.prog.info? 48 = some i ∧ i.zero = some (.agg #[.int .u8 0, .slice none 0 0, .int .i64 0, .int .i64 0, .int .u8 0]) ∧ i.size = 5 ∧ i.bytes = 56 := ⟨_, rfl, rfl, rfl, rfl⟩
theorem evC_one {N : Nat} {w : World} {x : Ev} {vb : Value} (h : OwnB N w vb x.byt) : ∀ u ∈ evC x vb, u.oneCell' = true := by
  obtain ⟨a, c, rfl⟩ := h.slice
  intro u hu
  simp only [evC, List.mem_cons, List.not_mem_nil, or_false] at hu
  rcases hu with rfl | rfl | rfl | rfl | rfl <;> rfl
theorem wpList_appEv {ops : Array Oper} {rest : List Oper} {o : Oper} {a : Act} {w : World} {Q : Exit → Act → World → Prop} (hgd : o.guard = none) (s x : Operand)
    (ho : o.op = .call { callee := .builtin .append, args := #[s, x], argTypes := #[22, 22] }) (N : Nat) (hN : N ≤ w.heap.size)
    (v : Value) (l : List (Ev × Value)) (hs : a.eval s = v) (hown : OwnE N w v l) (e : Ev) (vb : Value) (hob : OwnB N w vb e.byt) (hdis : ∀ p ∈ l, ∀ g, p.2.ownBlock = some g → vb.ownBlock ≠ some g) (g0 c : Nat) (hx : a.eval x = .slice (some ⟨g0, 0, none⟩) 1 c)
    (hr : Row w g0 48 (evC e vb).toArray) (hmax : l.length + 1 ≤ 100000)
    (h : ∀ v' w', OwnE N w' v' (l ++ [(e, vb)]) → w.grownBy w' v.ownBlock → wpList Try.prog ops Q rest (a.put o.dst v') w') : wpList Try.prog ops Q (o :: rest) a w := by
  obtain ⟨i, h1, h2, h3, h4⟩ := Try.info55a
  obtain ⟨v', w', hrun, g2, g3, _⟩ := run_append_own (P := Try.prog) w N 22 o.type 48 i _ 5 56 Try.underlying22 h1 h2 h3 h4 rfl (by decide) v l.length _ hown.row ⟨g0, 0, none⟩ 1 c (evC e vb) rfl (fun j u hu => by
    rw [Addr.add_mid, Nat.zero_add, hr.cell]; simpa using hu) (evC_one hob) (by unfold maxLen; omega) (by omega) hN
  have hkeep : ∀ {p : Ev × Value}, OwnB N w p.2 p.1.byt → OwnB N w' p.2 p.1.byt := fun {p} hp => hp.same fun k hk => by
    obtain ⟨_, cur, r2⟩ := hp.lt k hk
    refine g3.block k r2.lt fun e => ?_
    obtain ⟨_, cur3, r3⟩ := hown.lt k e.symm
    unfold Row at r2 r3
    rw [r2] at r3
    simp at r3
  have g2' : OwnE N w' v' (l ++ [(e, vb)]) := by
    refine ⟨?_, fun p hp => ?_, ?_⟩
    · rw [List.length_append, List.flatMap_append]
      simpa using g2
    · rcases List.mem_append.1 hp with hp | hp
      · exact hkeep (hown.own p hp)
      · rw [List.mem_singleton] at hp
        subst hp
        exact hkeep (p := (e, vb)) hob
    · rw [List.pairwise_append]
      exact ⟨hown.dis, List.pairwise_singleton _ _, fun p hp q hq => by rw [List.mem_singleton] at hq; subst hq; exact hdis p hp⟩
  refine wpList_plain hgd fun K hK => ?_
  unfold Oper.wp execOp
  simp only [ho, resolve, invoke, builtin, Sem.run_bind, Sem.run_pure, Result.andThen_ok, List.map_toArray, List.map_cons, List.map_nil, hs, hx, hrun]
  exact hK _ _ (h v' w' g2' g3)

def apd (xs : List Ev) (r : Except Int (List Ev × List UInt8)) : Except Int (List Ev × List UInt8) := match r with
  | .error x => .error x
  | .ok (ys, l) => .ok (xs ++ ys, l)
theorem apd_nil (r : Except Int (List Ev × List UInt8)) : apd [] r = r := by
  cases r with
  | error x => rfl
  | ok p => simp [apd]
theorem apd_bad {xs : List Ev} {m : Nat} {l : List UInt8} {x : Int} (h : evR l = .error x) : apd xs (evlR (m + 1) l) = .error x := by
  rw [evlR, h]; rfl
theorem apd_step {xs : List Ev} {m : Nat} {l l' : List UInt8} {x : Ev} (h : evR l = .ok (x, l')) : apd xs (evlR (m + 1) l) = apd (xs ++ [x]) (evlR m l') := by
  rw [evlR, h]
  simp only
  cases evlR m l' with
  | error y => rfl
  | ok p => simp [apd]

set_option maxRecDepth 100000 in
set_option maxHeartbeats 8000000 in
theorem events_any (N : Nat) (w : World) (rb rv : Nat) (l : List UInt8) (h : Rdr N w rb rv l) :
    Calls Try.prog 41 #[.pointer (some ⟨rb, 0, none⟩)] w (REnd N rb rv w (evsR l) fun xs v w' => ∃ ps : List (Ev × Value), ps.map (·.1) = xs ∧ OwnE w.heap.size w' v ps) := by
  have nm := number_any N w rb rv l h
  have c1 := h.clo
  have HB := Box'.mk (evsR.eq_1 l)
  generalize evsR l = R at *
  have hrl : rb < w.heap.size := by obtain ⟨v, hr, _⟩ := h.row; exact hr.lt
  have HRL := Box'.mk hrl
  clear h hrl
  go_enter Try.func41, Try.ntmps41
  go_wp2_with fail
  refine nm.mono ?_
  intro e w1 hh
  obtain ⟨g1, ⟨n, l1, v1, hr, rfl, rfl, rd1⟩ | ⟨x, hr, rfl⟩⟩ := hh.cases
  case inr =>
    exact ⟨rfl, REnd.bad (by rw [HB.out, hr]) g1⟩
  have e1 := HB.out
  rw [hr] at e1
  have e2 : R = if 4096 < n then .error 8 else evlR n l1 := e1
  have HE := Box'.mk e2
  have G1 := Box'.mk g1
  clear nm hh hr e1 e2 HB c1 g1
  by_cases hgt : 4096 < n
  · have HR : Box' (R = .error 8) := ⟨by rw [HE.out, if_pos hgt]⟩
    have FA := Box'.mk (fail_any 8)
    clear HE rd1
    go_wp2_with fail
    refine (FA.out _).mono ?_
    rintro e2 w2 ⟨rfl, rfl⟩
    exact ⟨rfl, REnd.bad HR.out G1.out⟩
  · have HR : Box' (R = apd [] (evlR n l1)) := ⟨by rw [HE.out, if_neg hgt, apd_nil]⟩
    have RD := Box'.mk rd1
    have hn : n ≤ 4096 := by omega
    clear HE rd1
    go_wp2_with fail
    go_loopw [2, 13] (fun u i wr => ∃ (k : Nat) (ps : List (Ev × Value)) (lk : List UInt8), i = .int .u64 (k : Int) ∧ k ≤ n ∧ Box' (ps.length = k) ∧ Box' (R = apd (ps.map (·.1)) (evlR (n - k) lk)) ∧ Box' (OwnE w.heap.size wr u ps) ∧ Box' (Rdr N wr rb rv lk) ∧ Box' (Gb rb w wr)) (fun _ i _ => n - (intOf i).toNat)
    case atStart => exact ⟨0, [], l1, rfl, by omega, ⟨rfl⟩, HR, ⟨OwnE.nil _ _⟩, RD, G1⟩
    case round =>
      clear HR RD G1
      obtain ⟨k, ps, lk, rfl, hk, HLN, HR, OE, RD, GB⟩ := hrel
      by_cases hlt : k < n
      · obtain ⟨m, hm⟩ : ∃ m, n - k = m + 1 := ⟨n - k - 1, by omega⟩
        have HM := Box'.mk hm
        have ev := event_any N wr rb rv lk RD.out
        clear hm
        obtain ⟨ao, co, rfl⟩ := OE.out.slice
        generalize hpl : ps.length = pl at OE ⊢
        have HPL := Box'.mk hpl
        clear hpl
        go_wp2_with fail
        refine ev.mono ?_
        intro e w2 hh
        obtain ⟨g2, ⟨x, l2, v2, hr, rfl, ⟨vb, rfl, ob⟩, rd2⟩ | ⟨x, hr, rfl⟩⟩ := hh.cases
        case inr =>
          exact ⟨rfl, REnd.bad (by rw [HR.out, HM.out, apd_bad hr]) (GB.out.trans g2)⟩
        have HR2 : Box' (R = apd ((ps ++ [(x, vb)]).map (·.1)) (evlR (n - (k + 1)) l2)) := ⟨by
          rw [HR.out, HM.out, apd_step hr, List.map_append]
          have : n - (k + 1) = m := by have := HM.out; omega
          rw [this]; rfl⟩
        have oe2 := OE.out.gb RD.out g2
        obtain ⟨w3, hw3⟩ : ∃ w3, w3 = w2.alloc (.cells (evC x vb).toArray 48) := ⟨_, rfl⟩
        have b3 : Below w2.heap.size w2 w3 := by rw [hw3]; exact (Below.refl _ _).alloc (Nat.le_refl _) _
        have r3 : Row w3 w2.heap.size 48 (evC x vb).toArray := by rw [hw3]; exact Row.new _ _ _
        have oe3 := oe2.below b3
        have ob3 : OwnB w.heap.size w3 vb x.byt := (ob.less GB.out.size).below b3
        have hdis : ∀ p ∈ ps, ∀ g, p.2.ownBlock = some g → vb.ownBlock ≠ some g := fun p hp g hg hv => by
          obtain ⟨_, cur, rp⟩ := (OE.out.own p hp).lt g hg
          have := rp.lt
          have := (ob.lt g hv).1
          omega
        have hz3 : w.heap.size ≤ w3.heap.size := Nat.le_trans GB.out.size (Nat.le_trans g2.size b3.size)
        have hmx : ps.length + 1 ≤ 100000 := by have := HLN.out; omega
        have NX : Box' (∀ v' w', OwnE w.heap.size w' v' (ps ++ [(x, vb)]) → w3.grownBy w' (Value.slice ao pl co).ownBlock → Rdr N w' rb rv l2 ∧ Gb rb w w') := ⟨fun v' w' _ g => by
          have rd3 := rd2.below b3
          have hne : ∀ k t c, Row w3 k t c → t ≠ 48 → w'.heap[k]? = w3.heap[k]? := fun k t c r ht => g.block k r.lt fun e => by
            obtain ⟨_, cur, r2⟩ := oe3.lt k e.symm
            unfold Row at r r2
            rw [r] at r2
            simp at r2
            exact ht r2.2
          obtain ⟨vr, rr, ri⟩ := rd3.row
          have hlow : Below N w3 w' := ⟨g.os, g.tape, g.output, g.size, fun k hk => g.block k (by have := rd3.nl; omega) fun e => by
            have h1 := (oe3.lt k e.symm).1
            have h2 := rd3.nb
            have h3 := HRL.out
            omega⟩
          refine ⟨⟨⟨vr, rr.same (hne _ _ _ rr (by decide)), ri.below hlow (Nat.le_refl _)⟩, rd3.var.same (hne _ _ _ rd3.var (by decide)), rd3.nb, rd3.ll⟩, ?_⟩
          have gg := (GB.out.trans g2).trans (Gb.below b3)
          exact ⟨g.os.trans gg.os, g.tape.trans gg.tape, g.output.trans gg.output, Nat.le_trans gg.size g.size, fun k hk hn => (g.block k (Nat.lt_of_lt_of_le hk gg.size) fun e => by
            have h1 := (oe3.lt k e.symm).1
            omega).trans (gg.block k hk hn)⟩⟩
        have OE3 := Box'.mk oe3
        have R3 := Box'.mk r3
        have OB3 := Box'.mk ob3
        have HDI := Box'.mk hdis
        have LNX : Box' ((ps ++ [(x, vb)]).length = k + 1) := ⟨by rw [List.length_append]; have := HLN.out; simp; omega⟩
        clear hh hr ev oe2 oe3 r3 ob3 hdis g2 rd2 ob b3 HR OE RD
        rw [hw3] at OE3 R3 OB3 hz3 NX
        clear hw3
        unfold Ev.val
        obtain ⟨xk, xl, xc, xr, xa⟩ := x
        simp only [evC] at OE3 R3 OB3 hz3 NX ⊢
        go_wp2_with (refine wpList_appEv rfl (.tmp 15) (.tmp 18) rfl w.heap.size hz3 _ ps rfl OE3.out ⟨xk, xl, xc, xr, xa⟩ vb OB3.out HDI.out _ _ rfl R3.out hmx ?_; intro v4 w4 o4 g4; obtain ⟨rd4, gb4⟩ := NX.out v4 w4 o4 g4; have O4 := Box'.mk o4; have RD4 := Box'.mk rd4; have GB4 := Box'.mk gb4; clear OE3 R3 OB3 NX HDI o4 rd4 gb4 g4)
        exact ⟨⟨k + 1, ps ++ [(⟨xk, xl, xc, xr, xa⟩, vb)], l2, by go_num, by omega, LNX, HR2, O4, RD4, GB4⟩, by simp [intOf]; omega⟩
      · obtain rfl : k = n := by omega
        have HRE : Box' (R = .ok (ps.map (·.1), lk)) := ⟨by rw [HR.out, Nat.sub_self]; simp [evlR, apd]⟩
        obtain ⟨ao, co, rfl⟩ := OE.out.slice
        generalize hpl : ps.length = pl at OE ⊢
        clear HR hpl
        go_wp2_with fail
        go_ret
        exact REnd.good HRE.out GB.out ⟨ps, rfl, OE.out⟩ RD.out
end Go.Proofs.Ytpgljhgfoihnjaa
