/- Tokens that lie behind a slice; the walk of the program's Expand. -/
import Derived.Test.YtcjfaahlchbcmaaK02
namespace Go.Proofs.Ytcjfaahlchbcmaa
open Go.RowKit Go.BigFrame
def Toks (N : Nat) (w : World) (v : Value) (l : List Tok) : Prop :=
  ∃ a c, v = .slice a l.length c ∧ l.length ≤ c ∧ (l = [] ∨ ∃ b o, a = some ⟨b, o, none⟩ ∧ b < N ∧
    ∀ k, k < l.length → w.cell? ⟨b, o + k * 3, none⟩ = some (.int .u8 ((l.getD k (0, 0, 0)).1.toNat : Int)) ∧ w.cell? ⟨b, o + k * 3 + 1, none⟩ = some (.int .i64 (l.getD k (0, 0, 0)).2.1) ∧ w.cell? ⟨b, o + k * 3 + 2, none⟩ = some (.int .i64 (l.getD k (0, 0, 0)).2.2))
theorem Toks.below {N M : Nat} {w w' : World} {v : Value} {l : List Tok} (h : Toks N w v l) (hb : Below M w w') (hN : N ≤ M) : Toks N w' v l := by
  obtain ⟨a, c, h1, h2, h4⟩ := h
  refine ⟨a, c, h1, h2, ?_⟩
  rcases h4 with h4 | ⟨b, o, h5, h6, h7⟩
  · exact .inl h4
  · refine .inr ⟨b, o, h5, h6, fun k hk => ?_⟩
    rw [hb.cell (p := ⟨b, o + k * 3, none⟩) (by show b < M; omega), hb.cell (p := ⟨b, o + k * 3 + 1, none⟩) (by show b < M; omega), hb.cell (p := ⟨b, o + k * 3 + 2, none⟩) (by show b < M; omega)]
    exact h7 k hk
theorem OwnB.below {N : Nat} {w w' : World} {v : Value} {d : List UInt8} (h : OwnB N w v d) (hb : Below w.heap.size w w') : OwnB N w' v d :=
  h.same fun g hg => let ⟨_, _, r⟩ := h.lt g hg; hb.block g r.lt
theorem OwnB.alloc {N : Nat} {w : World} {v : Value} {d : List UInt8} (h : OwnB N w v d) (o : Obj) : OwnB N (w.alloc o) v d := h.below ((Below.refl _ _).alloc (Nat.le_refl _) _)
theorem OwnB.drewN {N : Nat} {w : World} {v : Value} {d : List UInt8} (h : OwnB N w v d) (n : Nat) : OwnB N (w.drewN n) v d := h
theorem grown_below {N : Nat} {w w' : World} {v : Value} {d : List UInt8} (h : OwnB N w v d) (g : w.grownBy w' v.ownBlock) (hN : N ≤ w.heap.size) : Below N w w' :=
  ⟨g.os, g.tape, g.output, g.size, fun k hk => g.block k (by omega) (fun e => by have := (h.lt k e.symm).1; omega)⟩
theorem drop_step (l : List Tok) (k : Nat) (d : List UInt8) (h : k < l.length) : expF (l.drop k) d = if mayT (l.getD k (0, 0, 0)) d.length = true then (if 65536 < (oneT (l.getD k (0, 0, 0)) d).length then ([], 4) else expF (l.drop (k + 1)) (oneT (l.getD k (0, 0, 0)) d)) else ([], 2) := by
  rw [List.drop_eq_getElem_cons h]
  simp [expF, h]
theorem Row.same {w w' : World} {b : Nat} {t : TypeId} {c : Array Value} (h : Row w b t c) (e : w'.heap[b]? = w.heap[b]?) : Row w' b t c := by
  unfold Row; rw [e]; exact h
theorem own_ne {N : Nat} {w : World} {v : Value} {d : List UInt8} (ho : OwnB N w v d) {b : Nat} {t : TypeId} {c : Array Value} (hr : Row w b t c) (ht : t ≠ 5) : ∀ g, v.ownBlock = some g → g ≠ b := by
  rintro g hg rfl
  obtain ⟨-, cur, r⟩ := ho.lt g hg
  unfold Row at r hr
  rw [r] at hr
  simp at hr
  exact ht hr.2.symm
theorem own_grow {N : Nat} {w0 w w3 : World} {v : Value} {d : List UInt8} {o : Obj} {p : Nat} {c : Array Value} (ho : OwnB N w v d) (hr : Row w p 44 c) (hN : N ≤ w.heap.size) (hb : Below N w0 w) (g : (w.alloc o).grownBy w3 v.ownBlock) :
    Row w3 p 44 c ∧ Below N w0 w3 := by
  have hz : (w.alloc o).heap.size = w.heap.size + 1 := by simp
  have h1 : Row (w.alloc o) p 44 c := hr.alloc o
  have ho1 : OwnB N (w.alloc o) v d := ho.alloc o
  refine ⟨h1.same (g.block p (by have := hr.lt; omega) fun e => own_ne ho1 h1 (by decide) p e.symm rfl), (hb.alloc ?_ o).trans (grown_below ho1 g (by omega))⟩
  exact hN
set_option maxRecDepth 100000 in
set_option maxHeartbeats 4000000 in
theorem expand_any (v : Value) (l : List Tok) (hl : l.length ≤ 140737488355328) (w : World) (h : Toks w.heap.size w v l) :
    Calls Try.prog 7 #[v] w fun e w' => ∃ u, e = .returned (.tuple #[u, .int .i64 (expF l []).2]) ∧ OwnB w.heap.size w' u (expF l []).1 ∧ Below w.heap.size w w' := by
  obtain ⟨a, c, rfl, hc, h3⟩ := h
  have hcl : ∀ k, k < l.length → ∃ b o, a = some ⟨b, o, none⟩ ∧ b < w.heap.size ∧ w.cell? ⟨b, o + k * 3, none⟩ = some (.int .u8 ((l.getD k (0, 0, 0)).1.toNat : Int)) ∧ w.cell? ⟨b, o + k * 3 + 1, none⟩ = some (.int .i64 (l.getD k (0, 0, 0)).2.1) ∧ w.cell? ⟨b, o + k * 3 + 2, none⟩ = some (.int .i64 (l.getD k (0, 0, 0)).2.2) := by
    intro k hk
    rcases h3 with rfl | ⟨b, o, rfl, h5, h6⟩
    · simp at hk
    exact ⟨b, o, rfl, h5, h6 k hk⟩
  have HCL := Box'.mk hcl
  have DS := Box'.mk (drop_step l)
  have DE : Box' (l.drop l.length = []) := ⟨by simp⟩
  generalize hn : l.length = n at *
  clear hcl h3 hn
  obtain ⟨R, hR⟩ : ∃ R, R = expF l [] := ⟨_, rfl⟩
  have HR := Box'.mk hR
  rw [← hR]
  clear hR
  generalize hN : w.heap.size = N at *
  have HN := Box'.mk hN
  clear hN
  go_enter Try.func7, Try.ntmps7
  go_wp2_with fail
  go_loopw [4, 9] (fun u i wr => ∃ (k : Nat) (d : List UInt8), k ≤ n ∧ i = .int .i64 (k : Int) ∧ Box' (R = expF (l.drop k) d) ∧ Box' (d.length ≤ 65536) ∧ Box' (OwnB N wr u d) ∧ Below N w wr) (fun _ i _ => n - (intOf i).toNat)
  case atStart => exact ⟨0, [], by omega, rfl, ⟨by rw [HR.out]; rfl⟩, ⟨by simp⟩, ⟨OwnB.nil _ _⟩, Below.refl _ _⟩
  case round =>
    obtain ⟨k, d, hk, rfl, HE, HD, HO, hbl⟩ := hrel
    obtain ⟨ao, co, rfl⟩ := HO.out.slice
    by_cases hlt : k < n
    · obtain ⟨b, o, rfl, hbw, c0, c1, c2⟩ := HCL.out k hlt
      have EK := HE.out
      rw [DS.out k d hlt] at EK
      have EKB := Box'.mk EK
      clear EK
      obtain ⟨hc0, -⟩ := bcell hbl
      rw [← hc0 _ _ hbw] at c0 c1 c2
      clear hc0
      generalize l.getD k (0, 0, 0) = t at *
      obtain ⟨tb, tx, ty⟩ := t
      simp only at c0 c1 c2
      have hdl := HD.out
      have hbs : N ≤ wr.heap.size := by have := hbl.size; have := HN.out; omega
      generalize hL : d.length = L at *
      have HL := Box'.mk hL
      clear hL
      go_wp2_with fail
      refine (mayBe_any tb tx ty L hdl _).mono ?_
      rintro e w1 ⟨rfl, hb1⟩
      have hz : (wr.alloc (.cells #[.int .u8 (tb.toNat : Int), .int .i64 tx, .int .i64 ty] 44)).heap.size = wr.heap.size + 1 := by simp
      have bl2 : Below N w w1 := (hbl.alloc hbs _).trans (hb1.mono (by omega))
      have r1 : Row w1 wr.heap.size 44 #[.int .u8 (tb.toNat : Int), .int .i64 tx, .int .i64 ty] := (Row.new _ _ _).below hb1 (by omega)
      have O1 : Box' (OwnB N w1 (.slice ao L co) d) := ⟨(HO.out.alloc _).below hb1⟩
      have hN1 : N ≤ w1.heap.size := by have := hb1.size; omega
      clear hb1 c0 c1 c2 hbl hz HO
      generalize wr.heap.size = pb at *
      cases hmay : mayT (tb, tx, ty) L with
      | false =>
        have EK := EKB.out
        rw [hmay, if_neg (by decide)] at EK
        have RES : Box' (∃ u : Value, Ending.returned (.tuple #[.slice none 0 0, .int .i64 2]) = .returned (.tuple #[u, .int .i64 R.2]) ∧ OwnB N w1 u R.1 ∧ Below N w w1) := ⟨_, by rw [EK], by rw [EK]; exact OwnB.nil _ _, bl2⟩
        clear EK EKB HE r1 bl2 O1 DS HCL hmay
        go_wp2_with fail
        go_ret2
        exact RES.out
      | true =>
        have EK := EKB.out
        rw [hmay, if_pos rfl] at EK
        have c0 : w1.cell? ⟨pb, 0, none⟩ = some (.int .u8 (tb.toNat : Int)) := by rw [r1.cell]; rfl
        have c1 : w1.cell? ⟨pb, 1, none⟩ = some (.int .i64 tx) := by rw [r1.cell]; rfl
        have R1 := Box'.mk r1
        unfold mayT at hmay
        simp only at hmay
        clear r1 EKB
        by_cases hx0 : tx = 0
        · subst hx0
          rw [show oneT (tb, 0, ty) d = d ++ [tb] from rfl, List.length_append, HL.out] at EK
          have EKB := Box'.mk EK
          clear EK
          by_cases hlim : L < 65536
          · have hlim' : decide (65536 - (L : Int) < 1) = false := decide_eq_false (by omega)
            have EK := EKB.out
            rw [if_neg (by simp; omega)] at EK
            have EKN := Box'.mk EK
            have w2o : OwnB N (w1.alloc (.cells #[.int .u8 ((tb.toNat : Nat) : Int)] 5)) (.slice ao L co) d := O1.out.alloc _
            have rx : Row (w1.alloc (.cells #[.int .u8 ((tb.toNat : Nat) : Int)] 5)) w1.heap.size 5 #[.int .u8 ((tb.toNat : Nat) : Int)] := Row.new _ _ _
            have cx : (w1.alloc (.cells #[.int .u8 ((tb.toNat : Nat) : Int)] 5)).cell? ⟨w1.heap.size, 0, none⟩ = some (.int .u8 ((tb.toNat : Nat) : Int)) := by rw [rx.cell]; rfl
            have hN2 : N ≤ (w1.alloc (.cells #[.int .u8 ((tb.toNat : Nat) : Int)] 5)).heap.size := by simp; omega
            have hmx : d.length + 1 ≤ 1000000 := by rw [HL.out]; omega
            have GR : Box' (∀ v' w3, OwnB N w3 v' (d ++ [tb]) → (w1.alloc (.cells #[.int .u8 ((tb.toNat : Nat) : Int)] 5)).grownBy w3 (Value.slice ao L co).ownBlock → Row w3 pb 44 #[.int .u8 (tb.toNat : Int), .int .i64 0, .int .i64 ty] ∧ Below N w w3) := ⟨fun v' w3 _ g3 => own_grow O1.out R1.out hN1 bl2 g3⟩
            clear EK EKB R1 O1 rx bl2 hmay HCL DS HE
            go_wp2_with (refine wpList_append_byte rfl (.tmp 28) (.tmp 31) rfl N hN2 _ d rfl w2o _ _ tb rfl cx hmx ?_; intro v' w3 o3 g3; obtain ⟨r3, b3⟩ := GR.out v' w3 o3 g3; have d1 : w3.cell? ⟨pb, 1, none⟩ = some (.int .i64 0) := (by rw [r3.cell]; rfl); have O3 := Box'.mk o3; have B3 := Box'.mk b3; clear GR w2o cx hN2 o3 g3 r3 b3 c0 c1)
            go_loopw [4, 35] (fun u i wx => u = v' ∧ i = .int .i64 0 ∧ Box' (wx = w3)) (fun _ _ _ => 0)
            case atStart => exact ⟨rfl, rfl, ⟨rfl⟩⟩
            case round =>
              obtain ⟨rfl, rfl, HW⟩ := hrel
              obtain rfl := HW.out
              clear HW d1
              go_wp2_with fail
              exact ⟨⟨k + 1, d ++ [tb], by omega, by go_num, EKN, ⟨by rw [List.length_append, HL.out]; simp; omega⟩, O3, B3.out⟩, by simp [intOf]; omega⟩
          · obtain rfl : L = 65536 := by omega
            have EK := EKB.out
            rw [if_pos (by simp)] at EK
            have RES : Box' (∃ u : Value, Ending.returned (.tuple #[.slice none 0 0, .int .i64 4]) = .returned (.tuple #[u, .int .i64 R.2]) ∧ OwnB N w1 u R.1 ∧ Below N w w1) := ⟨_, by rw [EK], by rw [EK]; exact OwnB.nil _ _, bl2⟩
            clear EK EKB HE bl2 O1 DS HCL hmay R1
            go_wp2_with fail
            go_ret2
            exact RES.out
        · rw [if_neg hx0] at hmay
          obtain ⟨h1, h2, h3, h4, h5, h6⟩ := of_decide_eq_true hmay
          obtain ⟨X, rfl⟩ : ∃ X : Nat, tx = (X : Int) := ⟨tx.toNat, by omega⟩
          obtain ⟨Y, rfl⟩ : ∃ Y : Nat, ty = (Y : Int) := ⟨ty.toNat, by omega⟩
          have hX : 3 ≤ X := by omega
          have hX2 : X ≤ 258 := by omega
          have hY : 1 ≤ Y := by omega
          have hYL : Y ≤ L := by omega
          have e1 : oneT (tb, (X : Int), (Y : Int)) d = cpy Y X d := by unfold oneT; rw [if_neg hx0]; simp
          rw [e1, cpy_length, HL.out] at EK
          have hx0' : ((X : Int) == 0) = false := by rw [beq_eq_false_iff_ne]; exact hx0
          clear hmay h1 h2 h3 h4 h5 h6 hx0 e1 HE DS HCL
          have hmx1 : ¬ ((X : Int) < 1) := by omega
          by_cases hlim : L + X ≤ 65536
          · rw [if_neg (by omega)] at EK
            have EKN := Box'.mk EK
            have hlim' : decide (65536 - (L : Int) < (X : Int)) = false := decide_eq_false (by omega)
            have CP := Box'.mk (cpy_step Y)
            clear EK c0
            have hNw := HN.out
            go_wp2_with fail
            go_loopw [4, 35] (fun u i wx => ∃ (j : Nat) (d' : List UInt8), j ≤ X ∧ i = .int .i64 (j : Int) ∧ Box' (cpy Y X d = cpy Y (X - j) d') ∧ Box' (d'.length = L + j) ∧ Box' (OwnB N wx u d') ∧ Box' (Row wx pb 44 #[.int .u8 (tb.toNat : Int), .int .i64 (X : Int), .int .i64 (Y : Int)]) ∧ Below N w wx) (fun _ i _ => X - (intOf i).toNat)
            case atStart => exact ⟨0, d, by omega, rfl, ⟨rfl⟩, HL, O1, R1, bl2⟩
            case round =>
              clear O1 R1 c1 bl2 hN1
              obtain ⟨j, d', hj, rfl, HC, HL', HO', HR', hbl'⟩ := hrel
              by_cases hjl : j < X
              · obtain ⟨go, cc, rfl, hcc, hcl⟩ := HO'.out.seg (by rw [HL'.out]; omega)
                have cy := hcl (d'.length - Y) (by rw [HL'.out]; omega)
                have c2 : wr.cell? ⟨pb, 2, none⟩ = some (.int .i64 (Y : Int)) := by rw [HR'.out.cell]; rfl
                have hC := HC.out
                rw [show X - j = (X - (j + 1)) + 1 by omega, CP.out] at hC
                have HC2 := Box'.mk hC
                clear hC hcl
                generalize d'.getD (d'.length - Y) 0 = xb at *
                have hN1 : N ≤ wr.heap.size := by have := hbl'.size; omega
                have hD : d'.length ≤ 65535 := by rw [HL'.out]; omega
                have hDY : Y ≤ d'.length := by rw [HL'.out]; omega
                have HL2 : Box' ((d' ++ [xb]).length = L + (j + 1)) := ⟨by rw [List.length_append, HL'.out]; simp; omega⟩
                have w2o : OwnB N (wr.alloc (.cells #[.int .u8 ((xb.toNat : Nat) : Int)] 5)) (.slice (some ⟨go, 0, none⟩) d'.length cc) d' := HO'.out.alloc _
                have rx : Row (wr.alloc (.cells #[.int .u8 ((xb.toNat : Nat) : Int)] 5)) wr.heap.size 5 #[.int .u8 ((xb.toNat : Nat) : Int)] := Row.new _ _ _
                have cx : (wr.alloc (.cells #[.int .u8 ((xb.toNat : Nat) : Int)] 5)).cell? ⟨wr.heap.size, 0, none⟩ = some (.int .u8 ((xb.toNat : Nat) : Int)) := by rw [rx.cell]; rfl
                have hN2 : N ≤ (wr.alloc (.cells #[.int .u8 ((xb.toNat : Nat) : Int)] 5)).heap.size := by simp; omega
                have hmx : d'.length + 1 ≤ 1000000 := by omega
                have GR : Box' (∀ v' w3, OwnB N w3 v' (d' ++ [xb]) → (wr.alloc (.cells #[.int .u8 ((xb.toNat : Nat) : Int)] 5)).grownBy w3 (Value.slice (some ⟨go, 0, none⟩) d'.length cc).ownBlock → Row w3 pb 44 #[.int .u8 (tb.toNat : Int), .int .i64 (X : Int), .int .i64 (Y : Int)] ∧ Below N w w3) := ⟨fun v' w3 _ g3 => own_grow HO'.out HR'.out hN1 hbl' g3⟩
                have cy' : wr.cell? ⟨go, d'.length - Y, none⟩ = some (.int .u8 ((xb.toNat : Nat) : Int)) := cy
                have HMX := Box'.mk hmx
                clear HO' HR' hbl' rx cy hmx HC HL'
                generalize hDD : d'.length = D at *
                have HDD : Box' (d'.length + 1 ≤ 1000000) := ⟨by rw [hDD]; exact HMX.out⟩
                clear hDD
                go_wp2_with (refine wpList_append_byte rfl (.tmp 37) (.tmp 46) rfl N hN2 _ d' rfl w2o _ _ xb rfl cx HDD.out ?_; intro v' w3 o3 g3; obtain ⟨r3, b3⟩ := GR.out v' w3 o3 g3; have O3 := Box'.mk o3; have B3 := Box'.mk b3; have R3 := Box'.mk r3; clear GR w2o cx hN2 o3 g3 r3 b3 cy' c2)
                exact ⟨⟨j + 1, d' ++ [xb], by omega, by go_num, HC2, HL2, O3, R3, B3.out⟩, by simp [intOf]; omega⟩
              · obtain rfl : j = X := by omega
                have hC := HC.out
                rw [Nat.sub_self] at hC
                have e2 : cpy Y j d = d' := hC
                rw [e2] at EKN
                have HD' : Box' (d'.length ≤ 65536) := ⟨by rw [HL'.out]; omega⟩
                clear HC hC e2 HR' HL'
                go_wp2_with fail
                exact ⟨⟨k + 1, d', by omega, by go_num, EKN, HD', HO', hbl'⟩, by simp [intOf]; omega⟩
          · rw [if_pos (by omega)] at EK
            have hlim' : 65536 - (L : Int) < (X : Int) := by omega
            have RES : Box' (∃ u : Value, Ending.returned (.tuple #[.slice none 0 0, .int .i64 4]) = .returned (.tuple #[u, .int .i64 R.2]) ∧ OwnB N w1 u R.1 ∧ Below N w w1) := ⟨_, by rw [EK], by rw [EK]; exact OwnB.nil _ _, bl2⟩
            clear EK bl2 O1 R1 hlim
            go_wp2_with fail
            go_ret2
            exact RES.out
    · obtain rfl : k = n := by omega
      have EK := HE.out
      rw [DE.out] at EK
      have RES : Box' (∃ u : Value, Ending.returned (.tuple #[.slice ao d.length co, .int .i64 0]) = .returned (.tuple #[u, .int .i64 R.2]) ∧ OwnB N wr u R.1 ∧ Below N w wr) := ⟨_, by rw [EK]; rfl, by rw [EK]; exact HO.out, hbl⟩
      clear EK HE HO DS HCL hbl
      generalize d.length = L at *
      go_wp2_with fail
      go_ret2
      exact RES.out
end Go.Proofs.Ytcjfaahlchbcmaa
