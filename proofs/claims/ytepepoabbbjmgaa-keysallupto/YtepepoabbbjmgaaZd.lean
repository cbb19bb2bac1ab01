/- The walk of All. -/
import Derived.Test.YtepepoabbbjmgaaZc
import Derived.Test.YtepepoabbbjmgaaKf
namespace Go.Proofs.Ytepepoabbbjmgaa
open Go.RowKit Go.BigFrame
set_option linter.unusedSimpArgs false
set_option linter.unusedVariables false

/-- The pieces so far: in a row of slices of one's own, each at the head of a row of bytes. -/
def Pcs (N : Nat) (w : World) (v : Value) (ps : List (List UInt8)) : Prop := ∃ xs : List Value, xs.length = ps.length ∧ w.ownsRow N 23 1 v ps.length xs ∧ ∀ k, k < ps.length → FrB w (xs.getD k undef) (ps.getD k [])
theorem Pcs.nil (N : Nat) (w : World) : Pcs N w (.slice none 0 0) [] := ⟨[], rfl, World.ownsRow_nil _ _ _ _, fun k hk => absurd hk (Nat.not_lt_zero _)⟩
theorem ownS_keep {N : Nat} {w w' : World} {v : Value} {n : Nat} {xs : List Value} (h : w.ownsRow N 23 1 v n xs) (hb : Below w.heap.size w w') : w'.ownsRow N 23 1 v n xs := by
  refine ⟨h.1, ?_⟩
  rcases h.2 with q | ⟨g, cap, cur, e1, e2, e3, e4⟩
  · exact .inl q
  · have r : Row w g 23 cur := e3
    exact .inr ⟨g, cap, cur, e1, e2, r.below hb r.lt, e4⟩
theorem Pcs.keep {N : Nat} {w w' : World} {v : Value} {ps : List (List UInt8)} (h : Pcs N w v ps) (hb : Below w.heap.size w w') : Pcs N w' v ps :=
  let ⟨xs, h1, h2, h3⟩ := h; ⟨xs, h1, ownS_keep h2 hb, fun k hk => (h3 k hk).below hb⟩
theorem Pcs.slice {N : Nat} {w : World} {v : Value} {ps : List (List UInt8)} (h : Pcs N w v ps) : ∃ a c, v = .slice a ps.length c := by
  obtain ⟨xs, h1, h2, h3⟩ := h
  rcases h2.2 with ⟨e, e0⟩ | ⟨g, cap, cur, e1, _⟩
  · exact ⟨_, _, by rw [e, e0]⟩
  · exact ⟨_, _, e1⟩
theorem Pcs.bss {N : Nat} {w : World} {v : Value} {ps : List (List UInt8)} (h : Pcs N w v ps) : Bss w.heap.size w v ps := by
  obtain ⟨xs, h1, h2, h3⟩ := h
  rcases h2.2 with ⟨e, e0⟩ | ⟨g, cap, cur, e1, e2, e3, e4, e5, e6, e7⟩
  · exact ⟨_, _, by rw [e, e0], by omega, fun k hk => by omega⟩
  · refine ⟨_, _, e1, e4, fun k hk => ⟨g, 0, xs.getD k undef, rfl, (show Row w g 23 cur from e3).lt, ?_, (h3 k hk).inB.inE⟩⟩
    rw [Nat.zero_add, (show Row w g 23 cur from e3).cell]
    have q : (cur.toList.take (ps.length * 1))[k]? = xs[k]? := congrArg (·[k]?) e7
    rw [List.getElem?_take_of_lt (by omega), Array.getElem?_toList] at q
    rw [q, List.getElem?_eq_getElem (by omega)]
    simp [show k < xs.length by omega]
theorem infoS : ∃ i, Try.prog.info? 23 = some i ∧ i.zero = some (.slice none 0 0) ∧ i.size = 1 ∧ i.bytes = 24 := ⟨_, rfl, rfl, rfl, rfl⟩
theorem Try.under58 : Try.prog.underlying 58 = some (.slice 23) := by kernel_rfl
theorem wpList_appS {ops : Array Oper} {rest : List Oper} {o : Oper} {a : Act} {w : World} {Q : Exit → Act → World → Prop} (hgd : o.guard = none) (s x : Operand)
    (ho : o.op = .call { callee := .builtin .append, args := #[s, x], argTypes := #[58, 58] }) (N : Nat) (hN : N ≤ w.heap.size) (v : Value) (ps : List (List UInt8)) (hs : a.eval s = v) (hp : Pcs N w v ps) (hl : ps.length ≤ 1048576)
    (b c : Nat) (u : Value) (p : List UInt8) (hx : a.eval x = .slice (some ⟨b, 0, none⟩) 1 c) (hc : w.cell? ⟨b, 0, none⟩ = some u) (hu : FrB w u p)
    (h : ∀ v' w', Pcs N w' v' (ps ++ [p]) → Below N w w' → wpList Try.prog ops Q rest (a.put o.dst v') w') : wpList Try.prog ops Q (o :: rest) a w := by
  obtain ⟨i, h1, h2, h3, h4⟩ := infoS
  obtain ⟨xs, q1, q2, q3⟩ := hp
  have hu1 : u.oneCell' = true := by
    rcases hu with ⟨rfl, _⟩ | ⟨g, cur, c, rfl, _⟩ <;> rfl
  obtain ⟨v', w', hr, g2, g3, _⟩ := run_append_own (P := Try.prog) w N 58 o.type 23 i _ 1 24 Try.under58 h1 h2 h3 h4 rfl (by decide) v ps.length xs q2 ⟨b, 0, none⟩ 1 c [u] rfl
    (fun j x hx => by
      match j, hx with
      | 0, hx => injection hx with e; subst e; exact hc
      | j + 1, hx => simp at hx) (fun x hx => by rw [List.mem_singleton] at hx; subst hx; exact hu1) (by unfold maxLen; omega) (by omega) hN
  have KP : ∀ g c, Row w g 5 c → Row w' g 5 c := fun g c hr => hr.same (g3.block g hr.lt fun e => by
    rcases q2.2 with ⟨e1, _⟩ | ⟨g', cap, cur, e1, e2, e3, _⟩
    · rw [e1] at e; cases e
    · rw [e1] at e
      injection e with e
      have e' : g' = g := e.symm
      subst e'
      unfold Row at hr
      rw [e3] at hr
      simp at hr)
  refine wpList_plain hgd fun K hK => ?_
  unfold Oper.wp execOp
  simp only [ho, resolve, invoke, builtin, Sem.run_bind, Sem.run_pure, Result.andThen_ok, List.map_toArray, List.map_cons, List.map_nil, hs, hx, hr]
  refine hK _ _ (h v' w' ⟨xs ++ [u], by simp [q1], by rw [List.length_append]; exact g2, fun k hk => ?_⟩ ⟨g3.os, g3.tape, g3.output, g3.size, fun k hk => g3.block k (by omega) fun e => by have := (q2.lt k e.symm).1; omega⟩)
  rw [List.length_append, List.length_singleton] at hk
  by_cases hk2 : k < ps.length
  · have e1 : (xs ++ [u]).getD k undef = xs.getD k undef := by rw [List.getD_eq_getElem?_getD, List.getD_eq_getElem?_getD, List.getElem?_append_left (by omega)]
    have e2 : (ps ++ [p]).getD k [] = ps.getD k [] := by rw [List.getD_eq_getElem?_getD, List.getD_eq_getElem?_getD, List.getElem?_append_left (by omega)]
    rw [e1, e2]
    exact (q3 k hk2).keep KP
  · obtain rfl : k = ps.length := by omega
    have e1 : (xs ++ [u]).getD ps.length undef = u := by rw [List.getD_eq_getElem?_getD, List.getElem?_append_right (by omega), q1]; simp
    have e2 : (ps ++ [p]).getD ps.length [] = p := by rw [List.getD_eq_getElem?_getD, List.getElem?_append_right (by omega)]; simp
    rw [e1, e2]
    exact hu.keep KP
/-- The pieces of the first k events. -/
def pcsK (l : List Ev) (ar pa : Bool) (k : Nat) : List (List UInt8) := (l.take k).map fun x => encF x ar pa
theorem pcsK_step (l : List Ev) (ar pa : Bool) (k : Nat) (h : k < l.length) : pcsK l ar pa (k + 1) = pcsK l ar pa k ++ [encF (l.getD k Ev.none) ar pa] := by
  unfold pcsK
  rw [List.take_add_one, List.getElem?_eq_getElem h, show l.getD k Ev.none = l[k] by simp [h]]
  simp only [Option.toList, List.map_append, List.map_cons, List.map_nil]
theorem pcsK_len (l : List Ev) (ar pa : Bool) (k : Nat) (h : k ≤ l.length) : (pcsK l ar pa k).length = k := by
  unfold pcsK; rw [List.length_map, List.length_take]; omega
theorem pcsK_flat (l : List Ev) (ar pa : Bool) (k : Nat) : (pcsK l ar pa k).flatten = allK l ar pa k := rfl

set_option maxRecDepth 100000 in
set_option maxHeartbeats 4000000 in
theorem all_C : AllC 12 := by
  intro w s vg vt vm vl v l hl li bo h
  have HS := Box'.mk (allS.eq_1 s l)
  have HF := Box'.mk (allF.eq_1 l s.arr s.pas)
  have PS := Box'.mk (pcsK_step l s.arr s.pas)
  have PL := Box'.mk (pcsK_len l s.arr s.pas)
  have PF := Box'.mk (pcsK_flat l s.arr s.pas)
  have AL := Box'.mk (allK_len l s.arr s.pas)
  have A0 : Box' (pcsK l s.arr s.pas 0 = []) := ⟨rfl⟩
  have BA := Box'.mk (fun k => badE_at (l := l) (k := k))
  have BN := Box'.mk (badE_none (l := l))
  obtain ⟨w0, hw0⟩ : ∃ w0, w0 = w.alloc (.cells (Sc.snA s vg vt vm vl) 47) := ⟨_, rfl⟩
  have b0 : Below w.heap.size w w0 := by rw [hw0]; exact (Below.refl _ _).alloc (Nat.le_refl _) _
  have z0 : w0.heap.size = w.heap.size + 1 := by rw [hw0]; simp
  have r0 : Row w0 w.heap.size 47 (Sc.snA s vg vt vm vl) := by rw [hw0]; exact Row.new _ _ _
  have my := Sc.smay_any s vg vt vm vl w0 (li.at b0) bo
  have RW : Box' (∀ w1, Below w0.heap.size w0 w1 → Row w1 w.heap.size 47 (Sc.snA s vg vt vm vl)) := ⟨fun w1 b => r0.below b r0.lt⟩
  have B0 := Box'.mk b0
  have Z0 := Box'.mk z0
  have H0 := Box'.mk (h.below b0 (Nat.le_refl _))
  have R0 : Box' (∀ w1, Below w0.heap.size w0 w1 → Below w.heap.size w w1) := ⟨fun w1 b => B0.out.trans (b.mono B0.out.size)⟩
  obtain ⟨a, c, rfl, hc, _⟩ := h
  have c22 : (Sc.snA s vg vt vm vl)[22]? = some (.bool s.arr) := rfl
  have c23 : (Sc.snA s vg vt vm vl)[23]? = some (.bool s.pas) := rfl
  have C22 := Box'.mk c22
  have C23 := Box'.mk c23
  have S0 : Box' ((Sc.snA s vg vt vm vl).size = 44) := ⟨rfl⟩
  clear li bo r0 b0 z0 c22 c23
  generalize hsn : Sc.snA s vg vt vm vl = SN at *
  clear hsn
  generalize allS s l = R at *
  generalize s.arr = ar at *
  generalize s.pas = pa at *
  generalize Sc.mayN s = mm at *
  generalize allF l ar pa = F at *
  generalize hn : l.length = n at *
  have HN := Box'.mk hn
  clear hn
  rw [hw0] at my
  have hr := RW.out w0 (Below.refl _ _)
  rw [hw0] at hr
  go_enter Try.func12, Try.ntmps12
  go_wp2_with (first | (refine wpList_load_row rfl 47 (.tmp 2) rfl w.heap.size rfl 47 _ hr _ Try.underlying47 rfl 44 (by kernel_rfl) S0.out ?_) | fail)
  refine my.mono ?_
  rw [← hw0]
  rintro e w1 ⟨rfl, b1⟩
  have B1 := Box'.mk b1
  clear my b1 hr hw0
  cases mm with
  | false =>
    have RE : Box' (R = ([], 2)) := ⟨by rw [HS.out]; rfl⟩
    clear HS HF PS PL PF AL A0 BA BN
    go_wp2_with fail
    go_ret2
    exact ⟨_, by rw [RE.out]; rfl, by rw [RE.out]; exact OwnB.nil _ _, R0.out _ B1.out⟩
  | true =>
    have RE : Box' (R = F) := ⟨by rw [HS.out]; rfl⟩
    clear HS
    go_wp2_with fail
    go_loopw [6, 16] (fun u i wr => ∃ k : Nat, i = .int .i64 (k : Int) ∧ k ≤ n ∧ Box' (∀ j, j < k → (l.getD j Ev.none).may = true) ∧ Box' (Pcs w0.heap.size wr u (pcsK l ar pa k)) ∧ Box' (Below w0.heap.size w0 wr)) (fun _ i _ => n - (intOf i).toNat)
    case atStart => exact ⟨0, rfl, Nat.zero_le _, ⟨fun j hj => by omega⟩, ⟨by rw [A0.out]; exact Pcs.nil _ _⟩, B1⟩
    case round =>
      clear B1
      obtain ⟨k, rfl, hk, HJ, OO, BB⟩ := hrel
      obtain ⟨ao, co, rfl⟩ := OO.out.slice
      rw [PL.out k (by first | exact hk | (rw [HN.out]; exact hk))] at OO ⊢
      have hnn := HN.out
      by_cases hlt : k < n
      · have oo := OO.out
        obtain ⟨a', c', e, _, H3⟩ := H0.out
        obtain ⟨b, o, ha, hbN, vb, q1, q2, q3, q4, q5, q6⟩ := H3 k (by omega)
        injection e with e1 e3 e2
        clear e3
        subst e2
        rw [ha] at e1
        subst e1
        have CE : ∀ w2, Below w0.heap.size w0 w2 → ∀ q, w2.cell? ⟨b, q, Option.none⟩ = w0.cell? ⟨b, q, Option.none⟩ := fun w2 hb q => hb.cell (p := ⟨b, q, Option.none⟩) (by show b < w0.heap.size; have := Z0.out; omega)
        rw [← CE wr BB.out] at q1 q2 q3 q4 q5
        have ba := Box'.mk (BA.out k (by omega))
        have pS := Box'.mk (PS.out k (by omega))
        have HJ2 : Box' ((l.getD k Ev.none).may = true → ∀ j, j < k + 1 → (l.getD j Ev.none).may = true) := ⟨fun h j hj => by
          rcases Nat.lt_succ_iff_lt_or_eq.1 hj with h1 | rfl
          · exact HJ.out j h1
          · exact h⟩
        have AF := Box'.mk (ansF.eq_1 (l.getD k Ev.none) ar pa)
        obtain ⟨ax, cx, rfl, _⟩ := q6.slice
        obtain ⟨wx, hwx⟩ : ∃ wx, wx = wr.alloc (.cells #[.int .u8 ((l.getD k Ev.none).kind.toNat : Int), .slice ax (l.getD k Ev.none).byt.length cx, .int .i64 (l.getD k Ev.none).cols, .int .i64 (l.getD k Ev.none).rows, .int .u8 ((l.getD k Ev.none).arr.toNat : Int)] 25) := ⟨_, rfl⟩
        have bx : Below wr.heap.size wr wx := by rw [hwx]; exact (Below.refl _ _).alloc (Nat.le_refl _) _
        have bbx := BB.out.trans (bx.mono BB.out.size)
        have en := encode_F w.heap.size wx (.slice ax (l.getD k Ev.none).byt.length cx) (l.getD k Ev.none) ar pa (Nat.le_trans B0.out.size bbx.size) (q6.below bbx (by have := Z0.out; omega))
        have x22 : wx.cell? ⟨w.heap.size, 22, none⟩ = some (.bool ar) := by rw [(RW.out wx bbx).cell]; exact C22.out
        have x23 : wx.cell? ⟨w.heap.size, 23, none⟩ = some (.bool pa) := by rw [(RW.out wx bbx).cell]; exact C23.out
        have OX := Box'.mk (oo.keep bx)
        have BX := Box'.mk bbx
        have LK : Box' ((pcsK l ar pa k).length = k) := ⟨PL.out k (by omega)⟩
        have HX : Box' (∀ u w', Pcs w0.heap.size w' u (pcsK l ar pa k ++ [encF (l.getD k Ev.none) ar pa]) → Pcs w0.heap.size w' u (pcsK l ar pa (k + 1))) := ⟨fun u w' h => by rw [pS.out]; exact h⟩
        clear BA BN AL HJ q6 H3 H0 A0 hnn PS PL PF bx bbx oo OO pS CE BB
        unfold Ev.val at en
        generalize l.getD k Ev.none = x at *
        generalize ansF x ar pa = X at *
        generalize hxe : encF x ar pa = E at *
        generalize hmm : x.may = mm at *
        clear hxe hmm
        obtain ⟨xk, xl, xc, xr, xa⟩ := x
        simp only at en q1 q2 q3 q4 q5 hwx
        generalize xl.length = xn at *
        generalize hD : pcsK l ar pa k = D at *
        clear hD
        rw [hwx] at en x22 x23
        go_wp2_with fail
        refine en.mono ?_
        rw [← hwx]
        rintro e w2 ⟨u, rfl, f2, b2⟩
        have F2 := Box'.mk f2
        have O2 := Box'.mk (OX.out.keep b2)
        have BY := Box'.mk (BX.out.trans (b2.mono BX.out.size))
        clear en hwx x22 x23 q1 q2 q3 q4 q5 OX BX f2 b2
        cases mm with
        | false =>
          have XE : Box' (X = ([], 2)) := ⟨by rw [AF.out]; rfl⟩
          have hX : X.2 = 2 := by rw [XE.out]
          have RF : Box' (R = ([], 2)) := ⟨by rw [RE.out, HF.out, if_pos (ba.out rfl)]⟩
          rw [hX]
          clear XE RE HF ba HJ2 AF O2 hX HX
          go_wp2_with fail
          go_ret2
          exact ⟨_, by rw [RF.out]; rfl, by rw [RF.out]; exact OwnB.nil _ _, R0.out _ BY.out⟩
        | true =>
          have XE : Box' (X = (E, 0)) := ⟨by rw [AF.out]; rfl⟩
          have hX : X.2 = 0 := by rw [XE.out]
          have f2 := F2.out
          rw [show X.1 = E by rw [XE.out]] at f2
          have HJ3 := Box'.mk (HJ2.out rfl)
          rw [hX]
          clear hX XE RE HF ba HJ2 AF F2
          obtain ⟨au, cu, rfl, _⟩ := f2.inB.slice
          generalize hE : E.length = en at *
          have r3 : Row (w2.alloc (.cells #[.slice au en cu] 23)) w2.heap.size 23 #[.slice au en cu] := Row.new _ _ _
          have b3 : Below w2.heap.size w2 (w2.alloc (.cells #[.slice au en cu] 23)) := (Below.refl _ _).alloc (Nat.le_refl _) _
          have f3 := f2.below b3
          have o3 := O2.out.keep b3
          have BZ := BY.out.trans (b3.mono BY.out.size)
          have c3 : (w2.alloc (.cells #[.slice au en cu] 23)).cell? ⟨w2.heap.size, 0, none⟩ = some (.slice au en cu) := r3.cell 0
          have PP := Box'.mk BZ
          have FF := Box'.mk f3
          have CC := Box'.mk c3
          have O3 := Box'.mk o3
          clear f2 b3 f3 r3 o3 c3 BZ BY O2
          go_wp2_with (refine wpList_appS rfl (.tmp 32) (.tmp 34) rfl w0.heap.size PP.out.size _ D rfl O3.out (by have := LK.out; omega) w2.heap.size 1 _ E rfl CC.out FF.out ?_; intro v4 w4 o4 b4; have O4 := Box'.mk (HX.out _ _ o4); have B4 := Box'.mk (PP.out.trans b4); clear o4 b4)
          exact ⟨⟨k + 1, by go_num, by omega, HJ3, O4, B4⟩, by simp [intOf]; omega⟩
      · obtain rfl : n = k := by omega
        have RF : Box' (R = (allK l ar pa n, 0)) := ⟨by rw [RE.out, HF.out, if_neg (by rw [BN.out (fun j hj => HJ.out j (by omega))]; decide)]⟩
        have al := AL.out n (by omega) HJ.out
        have jj := joined_any _ _ _ _ (Nat.le_refl _) OO.out.bss (by rw [PL.out n (by omega)]; omega) (by rw [PF.out]; omega)
        rw [PF.out] at jj
        clear RE HF PS PL AL A0 BA BN HJ hnn OO H0 PF al
        go_wp2_with fail
        refine jj.mono ?_
        rintro e w3 ⟨v3, rfl, o3, b3⟩
        have O3 := Box'.mk (o3.less (Nat.le_trans B0.out.size BB.out.size))
        have B3 := Box'.mk (R0.out _ (BB.out.trans (b3.mono BB.out.size)))
        clear jj o3 b3
        go_wp2_with fail
        go_ret2
        exact ⟨_, by rw [RF.out]; rfl, by rw [RF.out]; exact O3.out, B3.out⟩
end Go.Proofs.Ytepepoabbbjmgaa
