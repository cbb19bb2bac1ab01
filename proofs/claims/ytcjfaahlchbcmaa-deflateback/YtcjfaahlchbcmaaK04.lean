/- The walk of the reference's Expand. -/
import Derived.Test.YtcjfaahlchbcmaaK03
namespace Go.Proofs.Ytcjfaahlchbcmaa
open Go.RowKit Go.BigFrame
set_option maxRecDepth 100000 in
set_option maxHeartbeats 4000000 in
theorem refExpand_any (v : Value) (l : List Tok) (hl : l.length ≤ 140737488355328) (w : World) (h : Toks w.heap.size w v l) :
    Calls Try.prog 8 #[v] w fun e w' => ∃ u, e = .returned (.tuple #[u, .int .i64 (expF l []).2]) ∧ OwnB w.heap.size w' u (expF l []).1 ∧ Below w.heap.size w w' := by
  obtain ⟨a, c, rfl, hc, h3⟩ := h
  have hcl : ∀ k, k < l.length → ∃ b o, a = some ⟨b, o, none⟩ ∧ b < w.heap.size ∧ w.cell? ⟨b, o + k * 3, none⟩ = some (.int .u8 ((l.getD k (0, 0, 0)).1.toNat : Int)) ∧ w.cell? ⟨b, o + k * 3 + 1, none⟩ = some (.int .i64 (l.getD k (0, 0, 0)).2.1) ∧ w.cell? ⟨b, o + k * 3 + 2, none⟩ = some (.int .i64 (l.getD k (0, 0, 0)).2.2) := by
    intro k hk
    rcases h3 with rfl | ⟨b, o, rfl, h5, h6⟩
    · simp at hk
    exact ⟨b, o, rfl, h5, h6 k hk⟩
  have HCL := Box'.mk hcl
  have DS := Box'.mk (drop_step l)
  have DE : Box' (l.drop l.length = []) := ⟨by simp⟩
  generalize hn : l.length = n at *
  clear hcl h3 hn
  obtain ⟨R, hR⟩ : ∃ R, R = expF l [] := ⟨_, rfl⟩
  have HR := Box'.mk hR
  rw [← hR]
  clear hR
  generalize hN : w.heap.size = N at *
  have HN := Box'.mk hN
  clear hN
  go_enter Try.func8, Try.ntmps8
  go_wp2_with fail
  go_loopw [4, 5] (fun u i wr => ∃ (k : Nat) (d : List UInt8), k ≤ n ∧ i = .int .i64 (k : Int) ∧ Box' (R = expF (l.drop k) d) ∧ Box' (d.length ≤ 65536) ∧ Box' (OwnB N wr u d) ∧ Below N w wr) (fun _ i _ => n - (intOf i).toNat)
  case atStart => exact ⟨0, [], by omega, rfl, ⟨by rw [HR.out]; rfl⟩, ⟨by simp⟩, ⟨OwnB.nil _ _⟩, Below.refl _ _⟩
  case round =>
    obtain ⟨k, d, hk, rfl, HE, HD, HO, hbl⟩ := hrel
    obtain ⟨ao, co, rfl⟩ := HO.out.slice
    by_cases hlt : k < n
    · obtain ⟨b, o, rfl, hbw, c0, c1, c2⟩ := HCL.out k hlt
      have EK := HE.out
      rw [DS.out k d hlt] at EK
      obtain ⟨hc0, -⟩ := bcell hbl
      rw [← hc0 _ _ hbw] at c0 c1 c2
      clear hc0
      generalize l.getD k (0, 0, 0) = t at *
      obtain ⟨tb, tx, ty⟩ := t
      simp only at c0 c1 c2
      have hdl := HD.out
      have hbs : N ≤ wr.heap.size := by have := hbl.size; have := HN.out; omega
      generalize hL : d.length = L at *
      have HL := Box'.mk hL
      have bl2 : Below N w (wr.alloc (.cells #[.int .u8 (tb.toNat : Int), .int .i64 tx, .int .i64 ty] 44)) := hbl.alloc hbs _
      clear hL HE DS HCL hbl
      have BAD : Box' (mayT (tb, tx, ty) L = false → ∃ u : Value, Ending.returned (.tuple #[.slice none 0 0, .int .i64 2]) = .returned (.tuple #[u, .int .i64 R.2]) ∧ OwnB N (wr.alloc (.cells #[.int .u8 (tb.toNat : Int), .int .i64 tx, .int .i64 ty] 44)) u R.1 ∧ Below N w (wr.alloc (.cells #[.int .u8 (tb.toNat : Int), .int .i64 tx, .int .i64 ty] 44))) := ⟨fun hmay => ⟨_, by rw [EK, hmay]; rfl, by rw [EK, hmay]; exact OwnB.nil _ _, bl2⟩⟩
      by_cases hx0 : tx = 0
      · subst hx0
        by_cases hy0 : ty = 0
        · subst hy0
          have hm : mayT (tb, 0, 0) L = true := rfl
          rw [hm, if_pos rfl, show oneT (tb, 0, 0) d = d ++ [tb] from rfl] at EK
          have EKB := Box'.mk EK
          have R1 : Box' (Row (wr.alloc (.cells #[.int .u8 (tb.toNat : Int), .int .i64 0, .int .i64 0] 44)) wr.heap.size 44 #[.int .u8 (tb.toNat : Int), .int .i64 0, .int .i64 0]) := ⟨Row.new _ _ _⟩
          have O1 : Box' (OwnB N (wr.alloc (.cells #[.int .u8 (tb.toNat : Int), .int .i64 0, .int .i64 0] 44)) (.slice ao L co) d) := ⟨HO.out.alloc _⟩
          have w2o : OwnB N ((wr.alloc (.cells #[.int .u8 (tb.toNat : Int), .int .i64 0, .int .i64 0] 44)).alloc (.cells #[.int .u8 ((tb.toNat : Nat) : Int)] 5)) (.slice ao L co) d := O1.out.alloc _
          have rx : Row ((wr.alloc (.cells #[.int .u8 (tb.toNat : Int), .int .i64 0, .int .i64 0] 44)).alloc (.cells #[.int .u8 ((tb.toNat : Nat) : Int)] 5)) (wr.heap.size + 1) 5 #[.int .u8 ((tb.toNat : Nat) : Int)] := Row.made _ _ _ _ _ rfl (by simp)
          have cx : ((wr.alloc (.cells #[.int .u8 (tb.toNat : Int), .int .i64 0, .int .i64 0] 44)).alloc (.cells #[.int .u8 ((tb.toNat : Nat) : Int)] 5)).cell? ⟨wr.heap.size + 1, 0, none⟩ = some (.int .u8 ((tb.toNat : Nat) : Int)) := by rw [rx.cell]; rfl
          have hN2 : N ≤ ((wr.alloc (.cells #[.int .u8 (tb.toNat : Int), .int .i64 0, .int .i64 0] 44)).alloc (.cells #[.int .u8 ((tb.toNat : Nat) : Int)] 5)).heap.size := by simp; omega
          have hmx : d.length + 1 ≤ 1000000 := by rw [HL.out]; omega
          have GR : Box' (∀ v' w3, OwnB N w3 v' (d ++ [tb]) → ((wr.alloc (.cells #[.int .u8 (tb.toNat : Int), .int .i64 0, .int .i64 0] 44)).alloc (.cells #[.int .u8 ((tb.toNat : Nat) : Int)] 5)).grownBy w3 (Value.slice ao L co).ownBlock → Below N w w3) := ⟨fun v' w3 _ g3 => (own_grow O1.out R1.out (by simp; omega) bl2 g3).2⟩
          clear EK O1 R1 rx bl2 BAD HO hm
          by_cases hlim : L < 65536
          · have EK := EKB.out
            rw [if_neg (by rw [List.length_append, HL.out]; simp; omega)] at EK
            have EKN := Box'.mk EK
            have HLN : Box' ((d ++ [tb]).length = L + 1) := ⟨by rw [List.length_append, HL.out]; rfl⟩
            have hlim' : decide (65536 < (L : Int) + 1) = false := decide_eq_false (by omega)
            clear EK EKB
            go_wp2_with (refine wpList_append_byte rfl (.tmp 24) (.tmp 27) rfl N hN2 _ d rfl w2o _ _ tb rfl cx hmx ?_; intro v' w3 o3 g3; have b3 := GR.out v' w3 o3 g3; have O3 := Box'.mk o3; have B3 := Box'.mk b3; obtain ⟨a', c', rfl⟩ := o3.slice; rw [HLN.out] at O3 ⊢; clear GR w2o cx hN2 o3 g3 b3)
            exact ⟨⟨k + 1, d ++ [tb], by omega, by go_num, EKN, ⟨by rw [HLN.out]; omega⟩, O3, B3.out⟩, by simp [intOf]; omega⟩
          · obtain rfl : L = 65536 := by omega
            have EK := EKB.out
            rw [if_pos (by rw [List.length_append, HL.out]; simp)] at EK
            have EKN := Box'.mk EK
            have HLN : Box' ((d ++ [tb]).length = 65537) := ⟨by rw [List.length_append, HL.out]; rfl⟩
            clear EK EKB
            go_wp2_with (refine wpList_append_byte rfl (.tmp 24) (.tmp 27) rfl N hN2 _ d rfl w2o _ _ tb rfl cx hmx ?_; intro v' w3 o3 g3; have b3 := GR.out v' w3 o3 g3; have B3 := Box'.mk b3; obtain ⟨a', c', rfl⟩ := o3.slice; rw [HLN.out]; clear GR w2o cx hN2 o3 g3 b3)
            go_ret2
            exact ⟨_, by rw [EKN.out]; rfl, by rw [EKN.out]; exact OwnB.nil _ _, B3.out⟩
        · have hm : mayT (tb, 0, ty) L = false := by unfold mayT; simp [hy0]
          have RES := Box'.mk (BAD.out hm)
          have hy0' : (ty == 0) = false := by rw [beq_eq_false_iff_ne]; exact hy0
          have hy0'' : (ty != 0) = true := by simp [hy0]
          clear hy0 hm BAD EK bl2 HO
          go_wp2_with fail
          go_ret2
          exact RES.out
      · have hx0' : (tx == 0) = false := by rw [beq_eq_false_iff_ne]; exact hx0
        by_cases h6 : tb.toNat = 0
        case neg =>
          have hm : mayT (tb, tx, ty) L = false := by unfold mayT; rw [if_neg hx0]; exact decide_eq_false (fun h => h6 h.2.2.2.2.2)
          have RES := Box'.mk (BAD.out hm)
          have h6' : ((tb.toNat : Int) != 0) = true := by simp only [bne_iff_ne, ne_eq]; omega
          clear h6
          clear hm BAD EK bl2 HO hx0
          go_wp2_with fail
          go_ret2
          exact RES.out
        have h6' : ((tb.toNat : Int) != 0) = false := by rw [h6]; rfl
        by_cases h1 : 3 ≤ tx
        case neg =>
          have hm : mayT (tb, tx, ty) L = false := by unfold mayT; rw [if_neg hx0]; exact decide_eq_false (fun h => h1 h.1)
          have RES := Box'.mk (BAD.out hm)
          have h1' : tx < 3 := by omega
          clear h1 h6
          clear hm BAD EK bl2 HO hx0
          go_wp2_with fail
          go_ret2
          exact RES.out
        by_cases h2 : tx ≤ 258
        case neg =>
          have hm : mayT (tb, tx, ty) L = false := by unfold mayT; rw [if_neg hx0]; exact decide_eq_false (fun h => h2 h.2.1)
          have RES := Box'.mk (BAD.out hm)
          have h2' : 258 < tx := by omega
          clear h2 h6
          clear hm BAD EK bl2 HO hx0
          go_wp2_with fail
          go_ret2
          exact RES.out
        by_cases h3 : 1 ≤ ty
        case neg =>
          have hm : mayT (tb, tx, ty) L = false := by unfold mayT; rw [if_neg hx0]; exact decide_eq_false (fun h => h3 h.2.2.1)
          have RES := Box'.mk (BAD.out hm)
          have h3' : ty < 1 := by omega
          clear h3 h6
          clear hm BAD EK bl2 HO hx0
          go_wp2_with fail
          go_ret2
          exact RES.out
        by_cases h4 : ty ≤ 32768
        case neg =>
          have hm : mayT (tb, tx, ty) L = false := by unfold mayT; rw [if_neg hx0]; exact decide_eq_false (fun h => h4 h.2.2.2.1)
          have RES := Box'.mk (BAD.out hm)
          have h4' : 32768 < ty := by omega
          clear h4 h6
          clear hm BAD EK bl2 HO hx0
          go_wp2_with fail
          go_ret2
          exact RES.out
        by_cases h5 : ty ≤ (L : Int)
        case neg =>
          have hm : mayT (tb, tx, ty) L = false := by unfold mayT; rw [if_neg hx0]; exact decide_eq_false (fun h => h5 h.2.2.2.2.1)
          have RES := Box'.mk (BAD.out hm)
          have h5' : (L : Int) < ty := by omega
          clear h5 h6
          clear hm BAD EK bl2 HO hx0
          go_wp2_with fail
          go_ret2
          exact RES.out
        have hm : mayT (tb, tx, ty) L = true := by unfold mayT; rw [if_neg hx0]; exact decide_eq_true ⟨h1, h2, h3, h4, h5, h6⟩
        rw [hm, if_pos rfl] at EK
        obtain ⟨X, rfl⟩ : ∃ X : Nat, tx = (X : Int) := ⟨tx.toNat, by omega⟩
        obtain ⟨Y, rfl⟩ : ∃ Y : Nat, ty = (Y : Int) := ⟨ty.toNat, by omega⟩
        have hX : 3 ≤ X := by omega
        have hX2 : X ≤ 258 := by omega
        have hY : 1 ≤ Y := by omega
        have hYL : Y ≤ L := by omega
        have hY4 : Y ≤ 32768 := by omega
        have e1 : oneT (tb, (X : Int), (Y : Int)) d = cpy Y X d := by unfold oneT; rw [if_neg hx0]; simp
        rw [e1] at EK
        have EKB := Box'.mk EK
        have R1 : Box' (Row (wr.alloc (.cells #[.int .u8 (tb.toNat : Int), .int .i64 (X : Int), .int .i64 (Y : Int)] 44)) wr.heap.size 44 #[.int .u8 (tb.toNat : Int), .int .i64 (X : Int), .int .i64 (Y : Int)]) := ⟨Row.new _ _ _⟩
        have O1 : Box' (OwnB N (wr.alloc (.cells #[.int .u8 (tb.toNat : Int), .int .i64 (X : Int), .int .i64 (Y : Int)] 44)) (.slice ao L co) d) := ⟨HO.out.alloc _⟩
        have B1 := Box'.mk bl2
        have CP := Box'.mk (cpy_step Y)
        have CL := Box'.mk (cpy_length Y X d)
        have hNw := HN.out
        have q1 : decide ((X : Int) < 3) = false := decide_eq_false (by omega)
        have q2 : decide (258 < (X : Int)) = false := decide_eq_false (by omega)
        have q3 : decide ((Y : Int) < 1) = false := decide_eq_false (by omega)
        have q4 : decide (32768 < (Y : Int)) = false := decide_eq_false (by omega)
        have q5 : decide ((L : Int) < (Y : Int)) = false := decide_eq_false (by omega)
        have q6 : decide (L < Y) = false := decide_eq_false (by omega)
        clear hm EK e1 hx0 BAD bl2 HO h6
        go_wp2_with fail
        generalize hpb : wr.heap.size = pb at *
        go_loopw [4, 7] (fun u i wx => ∃ (j : Nat) (d' : List UInt8), j ≤ X ∧ i = .int .i64 (j : Int) ∧ Box' (cpy Y X d = cpy Y (X - j) d') ∧ Box' (d'.length = L + j) ∧ Box' (OwnB N wx u d') ∧ Box' (Row wx pb 44 #[.int .u8 (tb.toNat : Int), .int .i64 (X : Int), .int .i64 (Y : Int)]) ∧ Below N w wx) (fun _ i _ => X - (intOf i).toNat)
        case atStart => exact ⟨0, d, by omega, rfl, ⟨rfl⟩, HL, O1, R1, B1.out⟩
        case round =>
          clear O1 R1 B1 c0 c1 c2
          obtain ⟨j, d', hj, rfl, HC, HL', HO', HR', hbl'⟩ := hrel
          by_cases hjl : j < X
          · obtain ⟨go, cc, rfl, hcc, hcl⟩ := HO'.out.seg (by rw [HL'.out]; omega)
            have cy := hcl (d'.length - Y) (by rw [HL'.out]; omega)
            have c1 : wr.cell? ⟨pb, 1, none⟩ = some (.int .i64 (X : Int)) := by rw [HR'.out.cell]; rfl
            have c2 : wr.cell? ⟨pb, 2, none⟩ = some (.int .i64 (Y : Int)) := by rw [HR'.out.cell]; rfl
            have hC := HC.out
            rw [show X - j = (X - (j + 1)) + 1 by omega, CP.out] at hC
            have HC2 := Box'.mk hC
            clear hC hcl
            generalize d'.getD (d'.length - Y) 0 = xb at *
            have hN1 : N ≤ wr.heap.size := by have := hbl'.size; omega
            have hD : d'.length ≤ 70000 := by rw [HL'.out]; omega
            have hDY : Y ≤ d'.length := by rw [HL'.out]; omega
            have HL2 : Box' ((d' ++ [xb]).length = L + (j + 1)) := ⟨by rw [List.length_append, HL'.out]; simp; omega⟩
            have w2o : OwnB N (wr.alloc (.cells #[.int .u8 ((xb.toNat : Nat) : Int)] 5)) (.slice (some ⟨go, 0, none⟩) d'.length cc) d' := HO'.out.alloc _
            have rx : Row (wr.alloc (.cells #[.int .u8 ((xb.toNat : Nat) : Int)] 5)) wr.heap.size 5 #[.int .u8 ((xb.toNat : Nat) : Int)] := Row.new _ _ _
            have cx : (wr.alloc (.cells #[.int .u8 ((xb.toNat : Nat) : Int)] 5)).cell? ⟨wr.heap.size, 0, none⟩ = some (.int .u8 ((xb.toNat : Nat) : Int)) := by rw [rx.cell]; rfl
            have hN2 : N ≤ (wr.alloc (.cells #[.int .u8 ((xb.toNat : Nat) : Int)] 5)).heap.size := by simp; omega
            have hmx : d'.length + 1 ≤ 1000000 := by omega
            have GR : Box' (∀ v' w3, OwnB N w3 v' (d' ++ [xb]) → (wr.alloc (.cells #[.int .u8 ((xb.toNat : Nat) : Int)] 5)).grownBy w3 (Value.slice (some ⟨go, 0, none⟩) d'.length cc).ownBlock → Row w3 pb 44 #[.int .u8 (tb.toNat : Int), .int .i64 (X : Int), .int .i64 (Y : Int)] ∧ Below N w w3) := ⟨fun v' w3 _ g3 => own_grow HO'.out HR'.out hN1 hbl' g3⟩
            have cy' : wr.cell? ⟨go, d'.length - Y, none⟩ = some (.int .u8 ((xb.toNat : Nat) : Int)) := cy
            have HMX := Box'.mk hmx
            clear HO' HR' hbl' rx cy hmx HC HL'
            generalize hDD : d'.length = D at *
            have HDD : Box' (d'.length + 1 ≤ 1000000) := ⟨by rw [hDD]; exact HMX.out⟩
            clear hDD
            go_wp2_with (refine wpList_append_byte rfl (.tmp 65) (.tmp 74) rfl N hN2 _ d' rfl w2o _ _ xb rfl cx HDD.out ?_; intro v' w3 o3 g3; obtain ⟨r3, b3⟩ := GR.out v' w3 o3 g3; have O3 := Box'.mk o3; have B3 := Box'.mk b3; have R3 := Box'.mk r3; clear GR w2o cx hN2 o3 g3 r3 b3 cy' c2 c1)
            exact ⟨⟨j + 1, d' ++ [xb], by omega, by go_num, HC2, HL2, O3, R3, B3.out⟩, by simp [intOf]; omega⟩
          · obtain rfl : j = X := by omega
            have c1 : wr.cell? ⟨pb, 1, none⟩ = some (.int .i64 (j : Int)) := by rw [HR'.out.cell]; rfl
            have hC := HC.out
            rw [Nat.sub_self] at hC
            have e2 : cpy Y j d = d' := hC
            rw [e2, HL'.out] at EKB
            obtain ⟨a', c', rfl⟩ := HO'.out.slice
            have hDL : d'.length ≤ 70000 := by rw [HL'.out]; omega
            rw [HL'.out] at HO' hDL ⊢
            by_cases hlim : L + j ≤ 65536
            · have EK := EKB.out
              rw [if_neg (by omega)] at EK
              have EKN := Box'.mk EK
              have hlim' : decide (65536 < (L : Int) + (j : Int)) = false := decide_eq_false (by omega)
              have HD' : Box' (d'.length ≤ 65536) := ⟨by rw [HL'.out]; omega⟩
              clear HC hC e2 HR' HL' EK EKB CL
              go_wp2_with fail
              exact ⟨⟨k + 1, d', by omega, by go_num, EKN, HD', HO', hbl'⟩, by simp [intOf]; omega⟩
            · have EK := EKB.out
              rw [if_pos (by omega)] at EK
              have hlim' : 65536 < (L : Int) + (j : Int) := by omega
              have RES : Box' (∃ u : Value, Ending.returned (.tuple #[.slice none 0 0, .int .i64 4]) = .returned (.tuple #[u, .int .i64 R.2]) ∧ OwnB N wr u R.1 ∧ Below N w wr) := ⟨_, by rw [EK], by rw [EK]; exact OwnB.nil _ _, hbl'⟩
              clear HC hC e2 HR' HL' EK EKB CL HO' hbl' hlim
              go_wp2_with fail
              go_ret2
              exact RES.out
    · obtain rfl : k = n := by omega
      have EK := HE.out
      rw [DE.out] at EK
      have RES : Box' (∃ u : Value, Ending.returned (.tuple #[.slice ao d.length co, .int .i64 0]) = .returned (.tuple #[u, .int .i64 R.2]) ∧ OwnB N wr u R.1 ∧ Below N w wr) := ⟨_, by rw [EK]; rfl, by rw [EK]; exact HO.out, hbl⟩
      clear EK HE HO DS HCL hbl
      generalize d.length = L at *
      go_wp2_with fail
      go_ret2
      exact RES.out
end Go.Proofs.Ytcjfaahlchbcmaa
