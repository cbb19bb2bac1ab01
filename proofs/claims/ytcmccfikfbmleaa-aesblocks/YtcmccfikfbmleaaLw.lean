/- The walk of AesBlocks. -/
import Derived.Test.YtcmccfikfbmleaaDf
import Derived.Test.YtcmccfikfbmleaaJ
namespace Go.Proofs.Ytcmccfikfbmleaa
open Go.RowKit Go.BigFrame

/-! An array of arrays of bytes, held against itself. -/
theorem run_eq_rows {P : Program} (w : World) (d : Nat) (t e' e : TypeId) (m n : Nat) (ek : IntKind) (hu : P.underlying t = some (.array m e')) (hu' : P.underlying e' = some (.array n e)) (he : P.underlying e = some (.int ek))
    (hs : (P.info? e).map (·.size) = some 1) (hs' : (P.info? e').map (·.size) = some n) (l : List UInt8) (hl : l.length = m * n) (hd : ∃ k, d = k + 1 + 1) : (Op.equalIn (d + 1) t (.agg (ag l)) (.agg (ag l))).run P w = .ok true w := by
  have hsz : ∀ w, (sizeOf e').run P w = .ok n w := by
    intro w
    cases hq : P.info? e' with
    | none => simp [hq] at hs'
    | some i => simp [hq] at hs'; simp [sizeOf, typeInfo, hq, hs']
  have hpart : ∀ (w : World) (k : Nat), (part e' (ag l) (k * n)).run P w = .ok (.agg (ag ((l.drop (k * n)).take n))) w := by
    intro w k
    have he2 : (ag l).extract (k * n) (k * n + n) = ag ((l.drop (k * n)).take n) := by
      apply Array.toList_inj.1
      simp [ag, List.extract_eq_take_drop, Nat.add_sub_cancel_left]
    simp [part, isAgg, underlying, hu', hsz, he2]
  have hin : ∀ (w : World) (k : Nat), k < m → (Op.equalIn d e' (.agg (ag ((l.drop (k * n)).take n))) (.agg (ag ((l.drop (k * n)).take n)))).run P w = .ok true w := by
    intro w k hk
    have hlen : ((l.drop (k * n)).take n).length = n := by
      rw [List.length_take, List.length_drop, hl]
      have : k * n + n ≤ m * n := by rw [← Nat.succ_mul]; exact Nat.mul_le_mul_right n hk
      omega
    obtain ⟨k', rfl⟩ := hd
    rw [run_eq_arr w (k' + 1) e' e n ek hu' he hs _ _ hlen hlen ⟨k', rfl⟩]
    simp
  clear hd
  simp only [Op.equalIn, Sem.run_bind, run_underlying hu, Result.andThen_ok, hsz]
  rw [Std.Legacy.Range.forIn_eq_forIn_range']
  have key : ∀ (k s : Nat), s + k = m → ∀ w : World, (Sem.run P (forIn (List.range' s k) ((none : Option Bool), ()) fun i __s => do
            let a ← part e' (ag l) (i * n)
            let b ← part e' (ag l) (i * n)
            let r ← Op.equalIn d e' a b
            if (!r) = true then pure (ForInStep.done (some false, ())) else pure (ForInStep.yield (none, ()))) w) = .ok (none, ()) w := by
    intro k
    induction k with
    | zero =>
      intro s hsn w
      simp
    | succ k ih =>
      intro s hsn w
      rw [List.range'_succ, List.forIn_cons]
      simp only [Sem.run_bind, hpart, Result.andThen_ok, hin w s (by omega), Bool.not_true, Bool.false_eq_true, if_false, Sem.run_pure]
      exact ih (s + 1) (by omega) w
  have hk := key m 0 (by omega) w
  have e1 : [:m].size = m := by simp [Std.Legacy.Range.size]
  have e2 : ([:m].start) = 0 := rfl
  have e3 : ([:m].step) = 1 := rfl
  rw [e1, e2, e3, hk]
  simp only [Result.andThen_ok]
  rfl
theorem run_eql_rows {P : Program} {op : Oper} {a : Act} (t e' e ty : TypeId) (m n : Nat) (ek : IntKind) (x y : Operand) (ho : op.op = .binOp .eql t x y ty) (hm : P.eqGuardType P.depth t = false) (hu : P.underlying t = some (.array m e')) (hu' : P.underlying e' = some (.array n e)) (he : P.underlying e = some (.int ek))
    (hs : (P.info? e).map (·.size) = some 1) (hs' : (P.info? e').map (·.size) = some n) (l : List UInt8) (hl : l.length = m * n) (hx : a.eval x = .agg (ag l)) (hy : a.eval y = .agg (ag l)) (w : World) : (execOp a.eval op).run P w = .ok (.value (.bool true)) w := by
  unfold execOp
  have h := run_eq_rows w 9999 t e' e m n ek hu hu' he hs hs' l hl ⟨9997, rfl⟩
  simp only [ho, hx, hy, Sem.run_bind, run_eqGuard_agg w _ _ _ _ _ _ hm, Result.andThen_ok, run_eql_struct, h, Sem.run_pure]

theorem wp_call_ex {P : Program} {Q : Exit → Act → World → Prop} {op : Oper} {a : Act} {w : World} {K : Act → World → Prop} (f : FuncId) (args : Array Value) (hrun : (execOp a.eval op).run P w = .ok (.enter f args) w) (R : Value → World → Prop)
    (hc : Calls P f args w (fun e w'' => ∃ v, e = .returned v ∧ R v w'')) (h : ∀ v w'', R v w'' → K (a.put op.dst v) w'') : op.wp P a w K Q := by
  unfold Oper.wp
  rw [hrun]
  exact hc.mono fun e w'' hh => by obtain ⟨v, rfl, hR⟩ := hh; exact h v w'' hR

set_option maxRecDepth 100000 in
set_option maxHeartbeats 1000000 in
theorem refEncrypt_any (key b : List UInt8) (hkey : key.length = 16) (hb : b.length = 16) (w : World) :
    Calls Try.prog 17 #[.agg (ag key), .agg (ag b)] w fun e w' => e = .returned (.agg (ag (Gf.encrypt key b))) ∧ Below w.heap.size w w' := by
  have HT : Box (Gf.sbox.length = 256) := ⟨Gf.sbox_len⟩
  have HK : Box ((Gf.keys Gf.sbox key).length = 176) := ⟨Gf.keys_len Gf.sbox key⟩
  have hN : ∀ w, Calls Try.prog 29 #[.agg (ag key)] w fun e w' => ∃ v, e = .returned v ∧ (∃ sb, v = .agg (cip (.pointer (some ⟨sb, 0, none⟩)) (Gf.keys Gf.sbox key)) ∧ Row w' sb 36 (ag Gf.sbox)) ∧ Below w.heap.size w w' := fun w =>
    (new_any key hkey w).mono fun e w' ⟨sb, h1, h2, h3⟩ => ⟨_, h1, ⟨sb, rfl, h2⟩, h3⟩
  have hE : ∀ w sb, Row w sb 36 (ag Gf.sbox) → Calls Try.prog 30 #[.agg (cip (.pointer (some ⟨sb, 0, none⟩)) (Gf.keys Gf.sbox key)), .agg (ag b)] w fun e w' => e = .returned (.agg (ag (Gf.encrypt key b))) ∧ Below w.heap.size w w' := fun w sb h => cipher_any _ _ b HT.out HK.out hb w sb h
  have lE := Gf.encrypt_len key b
  generalize Gf.encrypt key b = res at *
  generalize Gf.keys Gf.sbox key = KK at *
  generalize Gf.sbox = T at *
  go_enter Try.func17, Try.ntmps17
  go_wp2
  have c1 : Row (((w.alloc (.cells (ag key) 27)).alloc (.cells (ag b) 27)).alloc (.cells (ag (Gf.zeros 16)) 27)) w.heap.size 27 (ag key) := ((Row.new _ _ _).alloc _).alloc _
  have c2 : Row (((w.alloc (.cells (ag key) 27)).alloc (.cells (ag b) 27)).alloc (.cells (ag (Gf.zeros 16)) 27)) (w.heap.size + 1) 27 (ag b) := (Row.made _ _ _ _ _ rfl (by simp)).alloc _
  have c3 : Room (((w.alloc (.cells (ag key) 27)).alloc (.cells (ag b) 27)).alloc (.cells (ag (Gf.zeros 16)) 27)) (w.heap.size + 1 + 1) 27 16 := Room.made _ _ _ _ _ rfl (by simp)
  have c4 : Below w.heap.size w (((w.alloc (.cells (ag key) 27)).alloc (.cells (ag b) 27)).alloc (.cells (ag (Gf.zeros 16)) 27)) := (((Below.refl _ _).alloc (Nat.le_refl _) _).alloc (by simp) _).alloc (by simp; omega) _
  generalize hN0 : w.heap.size = N at *
  refine wp_region_grow 4 (by kernel_rfl) (by kernel_rfl) (fun w' => Row w' N 27 (ag key) ∧ Row w' (N + 1) 27 (ag b) ∧ Room w' (N + 1 + 1) 27 16 ∧ Below N w w') (fun k w v => match k with
    | 0 => v = .agg (ag key)
    | 1 => ∃ sb, v = .agg (cip (.pointer (some ⟨sb, 0, none⟩)) KK) ∧ Row w sb 36 (ag T)
    | 2 => v = .agg (ag b)
    | 3 => v = .agg (ag res)
    | _ => True) ?_ ?_ ?_ ?_ ?_
  · rintro w w' hb ⟨h1, h2, h3, h4⟩
    have := h1.lt
    exact ⟨h1.below hb h1.lt, h2.below hb h2.lt, h3.below hb (h3.elim fun _ h => h.1.lt), h4.trans (hb.mono (by omega))⟩
  · intro k v w w' hb h
    match k, h with
    | 0, h => exact h
    | 1, ⟨sb, h1, h2⟩ => exact ⟨sb, h1, h2.below hb h2.lt⟩
    | 2, h => exact h
    | 3, h => exact h
    | k + 4, h => trivial
  · exact ⟨c1, c2, c3, c4.drew⟩
  · refine ⟨?_, ?_, ?_, ?_, trivial⟩
    · intro f w1 hC hd KK hK
      simp only [List.take_succ_cons, List.take_zero, setAll, List.setIfInBounds_toArray, List.set_cons_succ, List.set_cons_zero, Nat.zero_add, Nat.reduceAdd] at hK ⊢
      refine wp_load_row 27 _ rfl _ rfl _ _ hC.1 _ Try.underlying27 rfl 16 Try.info27 (by rw [ag_size]; exact hkey) ?_
      exact hK _ _ rfl (Below.refl _ _)
    · intro f w1 hC hd KK hK
      have g0 : f 0 = _ := hd 0 rfl
      simp only [List.take_succ_cons, List.take_zero, setAll, List.setIfInBounds_toArray, List.set_cons_succ, List.set_cons_zero, Nat.zero_add, Nat.reduceAdd, g0] at hK ⊢
      exact wp_call_ex 29 #[.agg (ag key)] (by simp [go_sem]) _ (hN w1) (fun v w' h => hK _ _ h.1 h.2)
    · intro f w1 hC hd KK hK
      simp only [List.take_succ_cons, List.take_zero, setAll, List.setIfInBounds_toArray, List.set_cons_succ, List.set_cons_zero, Nat.zero_add, Nat.reduceAdd] at hK ⊢
      refine wp_load_row 27 _ rfl _ rfl _ _ hC.2.1 _ Try.underlying27 rfl 16 Try.info27 (by rw [ag_size]; exact hb) ?_
      exact hK _ _ rfl (Below.refl _ _)
    · intro f w1 hC hd KK2 hK
      obtain ⟨sb, g1, hsb⟩ := hd 1 rfl
      have g2 : f 2 = _ := hd 2 rfl
      simp only [List.take_succ_cons, List.take_zero, setAll, List.setIfInBounds_toArray, List.set_cons_succ, List.set_cons_zero, Nat.zero_add, Nat.reduceAdd, g1, g2] at hK ⊢
      exact wp_call 30 #[.agg (cip (.pointer (some ⟨sb, 0, none⟩)) KK), .agg (ag b)] (by simp [go_sem]) _ _ (hE w1 sb hsb) (fun w' hb => hK _ _ rfl hb)
  · intro f w1 hC hv
    have g0 : f 0 = _ := hv 0 (by decide)
    obtain ⟨sb, g1, hsb⟩ := hv 1 (by decide)
    have g2 : f 2 = _ := hv 2 (by decide)
    have g3 : f 3 = _ := hv 3 (by decide)
    simp only [List.take_succ_cons, List.take_zero, List.drop_succ_cons, List.drop_zero, setAll, List.setIfInBounds_toArray, List.set_cons_succ, List.set_cons_zero, Nat.zero_add, Nat.reduceAdd, g0, g1, g2, g3]
    go_wp2_with (refine wpList_store_row rfl 27 _ _ rfl _ rfl _ rfl _ _ hC.2.2.1 Try.info27 (by rw [ag_size]; exact lE) (ag_one _) ?_)
    exact bodyPost_ret (results_row rfl _ _ rfl _ _ (hC.2.2.1.setRow _) _ Try.underlying27 rfl 16 Try.info27 (by rw [ag_size]; exact lE)) rfl ⟨rfl, by rw [hN0]; exact below_setRow hC.2.2.2 (by omega : N ≤ N + 1 + 1) _⟩

set_option maxRecDepth 100000 in
set_option maxHeartbeats 2000000 in
theorem blocks_any (key b : List UInt8) (hkey : key.length = 16) (hb : b.length = 16) (w : World) :
    Calls Try.prog 4 #[.agg (ag key), .agg (ag b)] w fun e w' => e = .returned (.bool true) ∧ Below w.heap.size w w' := by
  have HX : Box ((Gf.encrypt key b).length = 16) := ⟨Gf.encrypt_len key b⟩
  have HY : Box ((Gf.decrypt key b).length = 16) := ⟨Gf.decrypt_len key b⟩
  have HK : Box ((Gf.keys Gf.sbox key).length = 11 * 16) := ⟨Gf.keys_len Gf.sbox key⟩
  go_enter Try.func4, Try.ntmps4
  go_wp2
  have r1 : Row ((w.alloc (.cells (ag key) 27)).alloc (.cells (ag b) 27)) w.heap.size 27 (ag key) := (Row.new _ _ _).alloc _
  have r2 : Row ((w.alloc (.cells (ag key) 27)).alloc (.cells (ag b) 27)) (w.heap.size + 1) 27 (ag b) := Row.made _ _ _ _ _ rfl (by simp)
  have hbl : Below w.heap.size w ((w.alloc (.cells (ag key) 27)).alloc (.cells (ag b) 27)) := ((Below.refl _ _).alloc (Nat.le_refl _) _).alloc (by simp) _
  generalize (w.alloc (.cells (ag key) 27)).alloc (.cells (ag b) 27) = W at *
  have hC0 : ∀ w', Below W.heap.size W w' → ∀ w'', Below w'.heap.size w' w'' → Below W.heap.size W w'' := fun w' h w'' h' => h.trans (h'.mono h.size)
  have hX1 : ∀ w', Below W.heap.size W w' → Calls Try.prog 14 #[.agg (ag key)] w' (fun e w'' => e = .returned (.agg (ag (Gf.keys Gf.sbox key))) ∧ Below W.heap.size W w'') := fun w' h => (expandTop_any key hkey w').mono fun e w'' h' => ⟨h'.1, hC0 w' h w'' h'.2⟩
  have hX2 : ∀ w', Below W.heap.size W w' → Calls Try.prog 15 #[.agg (ag key)] w' (fun e w'' => e = .returned (.agg (ag (Gf.keys Gf.sbox key))) ∧ Below W.heap.size W w'') := fun w' h => (refExpandTop_any key hkey w').mono fun e w'' h' => ⟨h'.1, hC0 w' h w'' h'.2⟩
  have hE1 : ∀ w', Below W.heap.size W w' → Calls Try.prog 16 #[.agg (ag key), .agg (ag b)] w' (fun e w'' => e = .returned (.agg (ag (Gf.encrypt key b))) ∧ Below W.heap.size W w'') := fun w' h => (encrypt_any key b hkey hb w').mono fun e w'' h' => ⟨h'.1, hC0 w' h w'' h'.2⟩
  have hE2 : ∀ w', Below W.heap.size W w' → Calls Try.prog 17 #[.agg (ag key), .agg (ag b)] w' (fun e w'' => e = .returned (.agg (ag (Gf.encrypt key b))) ∧ Below W.heap.size W w'') := fun w' h => (refEncrypt_any key b hkey hb w').mono fun e w'' h' => ⟨h'.1, hC0 w' h w'' h'.2⟩
  have hD1 : ∀ w', Below W.heap.size W w' → Calls Try.prog 18 #[.agg (ag key), .agg (ag b)] w' (fun e w'' => e = .returned (.agg (ag (Gf.decrypt key b))) ∧ Below W.heap.size W w'') := fun w' h => (decrypt_any key b hkey hb w').mono fun e w'' h' => ⟨h'.1, hC0 w' h w'' h'.2⟩
  have hD2 : ∀ w', Below W.heap.size W w' → Calls Try.prog 19 #[.agg (ag key), .agg (ag b)] w' (fun e w'' => e = .returned (.agg (ag (Gf.decrypt key b))) ∧ Below W.heap.size W w'') := fun w' h => (refDecrypt_any key b hkey hb w').mono fun e w'' h' => ⟨h'.1, hC0 w' h w'' h'.2⟩
  have hA : ∀ w', Below W.heap.size W w' → Calls Try.prog 13 #[] w' (fun e w'' => e = .returned (.bool true) ∧ Below W.heap.size W w'') := fun w' h => (anchored_any w').mono fun e w'' h' => ⟨h'.1, hC0 w' h w'' h'.2⟩
  generalize Gf.encrypt key b = x at *
  generalize Gf.decrypt key b = y at *
  generalize Gf.keys Gf.sbox key = kk at *
  have R1 : ∀ w', Below W.heap.size W w' → Row w' w.heap.size 27 (ag key) := fun w' h => r1.below h r1.lt
  have R2 : ∀ w', Below W.heap.size W w' → Row w' (w.heap.size + 1) 27 (ag b) := fun w' h => r2.below h r2.lt
  have hz : w.heap.size ≤ W.heap.size := hbl.size
  refine wp_region_quiet (C := fun w' => Below W.heap.size W w') (by kernel_rfl) (by kernel_rfl) (Below.refl _ _).drew ?_
  simp only
  go_big_quiet_want
  refine quiet_load_row 27 _ rfl _ rfl _ _ R1 _ Try.underlying27 rfl 16 Try.info27 (by rw [ag_size]; exact hkey) ?_
  go_big_quiet_on
  simp only [Act.put, List.setIfInBounds_toArray, List.set_cons_succ, List.set_cons_zero]
  go_big_quiet_want
  refine quiet_call 14 #[.agg (ag key)] (.agg (ag kk)) (fun w' => by simp [go_sem]) hX1 ?_
  go_big_quiet_on
  simp only [Act.put, List.setIfInBounds_toArray, List.set_cons_succ, List.set_cons_zero]
  go_big_quiet_want
  refine quiet_load_row 27 _ rfl _ rfl _ _ R1 _ Try.underlying27 rfl 16 Try.info27 (by rw [ag_size]; exact hkey) ?_
  go_big_quiet_on
  simp only [Act.put, List.setIfInBounds_toArray, List.set_cons_succ, List.set_cons_zero]
  go_big_quiet_want
  refine quiet_call 15 #[.agg (ag key)] (.agg (ag kk)) (fun w' => by simp [go_sem]) hX2 ?_
  go_big_quiet_on
  simp only [Act.put, List.setIfInBounds_toArray, List.set_cons_succ, List.set_cons_zero]
  go_big_quiet_want
  refine quiet_run _ (run_eql_rows 28 27 5 _ 11 16 .u8 _ _ rfl (by kernel_rfl) Try.underlying28 Try.underlying27 Try.underlying5 (by kernel_rfl) (by kernel_rfl) kk HK.out rfl rfl) ?_
  go_big_quiet_on
  simp only [Act.put, List.setIfInBounds_toArray, List.set_cons_succ, List.set_cons_zero]
  go_big_quiet_step (fail)
  go_big_quiet_want
  refine quiet_load_row 27 _ rfl _ rfl _ _ R1 _ Try.underlying27 rfl 16 Try.info27 (by rw [ag_size]; exact hkey) ?_
  go_big_quiet_on
  simp only [Act.put, List.setIfInBounds_toArray, List.set_cons_succ, List.set_cons_zero]
  go_big_quiet_want
  refine quiet_load_row 27 _ rfl _ rfl _ _ R2 _ Try.underlying27 rfl 16 Try.info27 (by rw [ag_size]; exact hb) ?_
  go_big_quiet_on
  simp only [Act.put, List.setIfInBounds_toArray, List.set_cons_succ, List.set_cons_zero]
  go_big_quiet_want
  refine quiet_call 16 #[.agg (ag key), .agg (ag b)] (.agg (ag x)) (fun w' => by simp [go_sem]) hE1 ?_
  go_big_quiet_on
  simp only [Act.put, List.setIfInBounds_toArray, List.set_cons_succ, List.set_cons_zero]
  go_big_quiet_want
  refine quiet_load_row 27 _ rfl _ rfl _ _ R1 _ Try.underlying27 rfl 16 Try.info27 (by rw [ag_size]; exact hkey) ?_
  go_big_quiet_on
  simp only [Act.put, List.setIfInBounds_toArray, List.set_cons_succ, List.set_cons_zero]
  go_big_quiet_want
  refine quiet_load_row 27 _ rfl _ rfl _ _ R2 _ Try.underlying27 rfl 16 Try.info27 (by rw [ag_size]; exact hb) ?_
  go_big_quiet_on
  simp only [Act.put, List.setIfInBounds_toArray, List.set_cons_succ, List.set_cons_zero]
  go_big_quiet_want
  refine quiet_call 17 #[.agg (ag key), .agg (ag b)] (.agg (ag x)) (fun w' => by simp [go_sem]) hE2 ?_
  go_big_quiet_on
  simp only [Act.put, List.setIfInBounds_toArray, List.set_cons_succ, List.set_cons_zero]
  go_big_quiet_want
  refine quiet_run _ (run_eql_op 27 5 _ 16 .u8 _ _ rfl (by kernel_rfl) Try.underlying27 Try.underlying5 (by kernel_rfl) x x rfl rfl HX.out HX.out true (decide_eq_true rfl)) ?_
  go_big_quiet_on
  simp only [Act.put, List.setIfInBounds_toArray, List.set_cons_succ, List.set_cons_zero]
  go_big_quiet_want
  refine quiet_run (.bool true) (run_pick_op _ _ _ rfl true rfl (.bool true) rfl) ?_
  go_big_quiet_on
  simp only [Act.put, List.setIfInBounds_toArray, List.set_cons_succ, List.set_cons_zero]
  go_big_quiet_step (fail)
  go_big_quiet_want
  refine quiet_load_row 27 _ rfl _ rfl _ _ R1 _ Try.underlying27 rfl 16 Try.info27 (by rw [ag_size]; exact hkey) ?_
  go_big_quiet_on
  simp only [Act.put, List.setIfInBounds_toArray, List.set_cons_succ, List.set_cons_zero]
  go_big_quiet_want
  refine quiet_load_row 27 _ rfl _ rfl _ _ R2 _ Try.underlying27 rfl 16 Try.info27 (by rw [ag_size]; exact hb) ?_
  go_big_quiet_on
  simp only [Act.put, List.setIfInBounds_toArray, List.set_cons_succ, List.set_cons_zero]
  go_big_quiet_want
  refine quiet_call 18 #[.agg (ag key), .agg (ag b)] (.agg (ag y)) (fun w' => by simp [go_sem]) hD1 ?_
  go_big_quiet_on
  simp only [Act.put, List.setIfInBounds_toArray, List.set_cons_succ, List.set_cons_zero]
  go_big_quiet_want
  refine quiet_load_row 27 _ rfl _ rfl _ _ R1 _ Try.underlying27 rfl 16 Try.info27 (by rw [ag_size]; exact hkey) ?_
  go_big_quiet_on
  simp only [Act.put, List.setIfInBounds_toArray, List.set_cons_succ, List.set_cons_zero]
  go_big_quiet_want
  refine quiet_load_row 27 _ rfl _ rfl _ _ R2 _ Try.underlying27 rfl 16 Try.info27 (by rw [ag_size]; exact hb) ?_
  go_big_quiet_on
  simp only [Act.put, List.setIfInBounds_toArray, List.set_cons_succ, List.set_cons_zero]
  go_big_quiet_want
  refine quiet_call 19 #[.agg (ag key), .agg (ag b)] (.agg (ag y)) (fun w' => by simp [go_sem]) hD2 ?_
  go_big_quiet_on
  simp only [Act.put, List.setIfInBounds_toArray, List.set_cons_succ, List.set_cons_zero]
  go_big_quiet_want
  refine quiet_run _ (run_eql_op 27 5 _ 16 .u8 _ _ rfl (by kernel_rfl) Try.underlying27 Try.underlying5 (by kernel_rfl) y y rfl rfl HY.out HY.out true (decide_eq_true rfl)) ?_
  go_big_quiet_on
  simp only [Act.put, List.setIfInBounds_toArray, List.set_cons_succ, List.set_cons_zero]
  go_big_quiet_want
  refine quiet_run (.bool true) (run_pick_op _ _ _ rfl true rfl (.bool true) rfl) ?_
  go_big_quiet_on
  simp only [Act.put, List.setIfInBounds_toArray, List.set_cons_succ, List.set_cons_zero]
  go_big_quiet_step (fail)
  go_big_quiet_want
  refine quiet_call 13 #[] (.bool true) (fun w' => by simp [go_sem]) hA ?_
  go_big_quiet_on
  simp only [Act.put, List.setIfInBounds_toArray, List.set_cons_succ, List.set_cons_zero]
  go_big_quiet_want
  refine quiet_run (.bool true) (run_pick_op _ _ _ rfl true rfl (.bool true) rfl) ?_
  go_big_quiet_on
  simp only [Act.put, List.setIfInBounds_toArray, List.set_cons_succ, List.set_cons_zero]
  go_big_quiet_step (fail)
  refine wpQuiet_nil ?_
  intro w' hw'
  go_wp2
  go_ret
  exact ⟨rfl, hbl.trans (hw'.mono hz)⟩
end Go.Proofs.Ytcmccfikfbmleaa
