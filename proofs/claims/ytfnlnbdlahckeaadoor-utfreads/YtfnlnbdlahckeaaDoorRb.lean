/- A reader's cells; isThere, forget, finish, Waits, New. -/
import Derived.Test.YtfnlnbdlahckeaaDoorRa
namespace Go.Proofs.YtfnlnbdlahckeaaDoor
open Go.RowKit Go.BigFrame
set_option linter.unusedVariables false
set_option linter.unusedSimpArgs false

/-- All blocks but one stay. -/
structure But (b : Nat) (w w' : World) : Prop where
  os : w'.os = w.os
  tape : w'.tape = w.tape
  output : w'.output = w.output
  size : w.heap.size ≤ w'.heap.size
  block : ∀ k, k < w.heap.size → k ≠ b → w'.heap[k]? = w.heap[k]?
theorem But.refl (b : Nat) (w : World) : But b w w := ⟨rfl, rfl, rfl, Nat.le_refl _, fun _ _ _ => rfl⟩
theorem But.trans {b : Nat} {x y z : World} (h : But b x y) (k : But b y z) : But b x z := ⟨k.os.trans h.os, k.tape.trans h.tape, k.output.trans h.output, Nat.le_trans h.size k.size, fun i hi hn => (k.block i (Nat.lt_of_lt_of_le hi h.size) hn).trans (h.block i hi hn)⟩
theorem But.of {b : Nat} {w w' : World} (h : Below w.heap.size w w') : But b w w' := ⟨h.os, h.tape, h.output, h.size, fun k hk _ => h.block k hk⟩
theorem But.drewN {b : Nat} {w w' : World} (h : But b w w') (n : Nat) : But b w (w'.drewN n) := ⟨h.os, h.tape, h.output, h.size, h.block⟩
theorem But.setCell {b : Nat} {w w' : World} (h : But b w w') (o : Nat) (v : Value) : But b w (w'.setCell ⟨b, o, none⟩ v) :=
  ⟨h.os, h.tape, h.output, by simpa using h.size, fun k hk hn => by rw [Below.heap_setCell _ _ _ _ hn]; exact h.block k hk hn⟩
theorem But.below {b N : Nat} {w w' : World} (h : But b w w') (hN : N ≤ w.heap.size) (hb : N ≤ b) : Below N w w' := ⟨h.os, h.tape, h.output, h.size, fun k hk => h.block k (by omega) (by omega)⟩
theorem But.row {b : Nat} {w w' : World} (h : But b w w') {g : Nat} {t : TypeId} {c : Array Value} (hr : Row w g t c) (hn : g ≠ b) : Row w' g t c := hr.same (h.block g hr.lt hn)
/-- A reader's cells. -/
def rdC (m : Bool) (S : List UInt8) : Array Value := #[.bool m, B (S.getD 0 0), B (S.getD 1 0), B (S.getD 2 0), .int .i64 (S.length : Int)]
set_option maxRecDepth 100000 in
set_option maxHeartbeats 4000000 in
theorem forget_any (rb : Nat) (m : Bool) (S : List UInt8) (w : World) (h : Row w rb 45 (rdC m S)) : Calls Tryd.prog 32 #[.pointer (some ⟨rb, 0, none⟩)] w fun e w' => e = .returned (.tuple #[]) ∧ Row w' rb 45 (rdC m []) ∧ But rb w w' := by
  have c0 : w.cell? ⟨rb, 1, none⟩ = some (B (S.getD 0 0)) := by rw [h.cell]; rfl
  have c1 : w.cell? ⟨rb, 2, none⟩ = some (B (S.getD 1 0)) := by rw [h.cell]; rfl
  have c2 : w.cell? ⟨rb, 3, none⟩ = some (B (S.getD 2 0)) := by rw [h.cell]; rfl
  have c3 : w.cell? ⟨rb, 4, none⟩ = some (.int .i64 (S.length : Int)) := by rw [h.cell]; rfl
  have f0 := h.frozen 1
  have f1 := h.frozen 2
  have f2 := h.frozen 3
  have f3 := h.frozen 4
  unfold B at c0 c1 c2
  generalize S.getD 0 0 = x0 at *
  have HR := Box'.mk h
  clear h
  go_enter Tryd.func32, Tryd.ntmps32
  go_wp2_with fail
  have r1 := (((HR.out.setCell 1 (.int .u8 0)).setCell 2 (.int .u8 0)).setCell 3 (.int .u8 0)).setCell 4 (.int .i64 0)
  exact bodyPost_end (by simp [results, show Tryd.f32.results = #[] from rfl]) rfl ⟨rfl, r1, ((((But.refl rb w).setCell _ _).setCell _ _).setCell _ _).setCell _ _⟩
/-- What lies below N stays, and every row that is none of runes, but the reader. -/
structure FrX (rb N : Nat) (w w' : World) : Prop where
  os : w'.os = w.os
  tape : w'.tape = w.tape
  output : w'.output = w.output
  size : w.heap.size ≤ w'.heap.size
  block : ∀ k, k < w.heap.size → k ≠ rb → (k < N ∨ ∃ t c, Row w k t c ∧ t ≠ 21) → w'.heap[k]? = w.heap[k]?
theorem FrX.refl (rb N : Nat) (w : World) : FrX rb N w w := ⟨rfl, rfl, rfl, Nat.le_refl _, fun _ _ _ _ => rfl⟩
theorem FrX.trans {rb N : Nat} {a b c : World} (h : FrX rb N a b) (k : FrX rb N b c) : FrX rb N a c :=
  ⟨k.os.trans h.os, k.tape.trans h.tape, k.output.trans h.output, Nat.le_trans h.size k.size, fun i hi hn hc => by
    have e := h.block i hi hn hc
    refine (k.block i (Nat.lt_of_lt_of_le hi h.size) hn ?_).trans e
    rcases hc with hc | ⟨t, q, r, ht⟩
    · exact .inl hc
    · exact .inr ⟨t, q, r.same e, ht⟩⟩
theorem FrX.but {rb N : Nat} {w w' : World} (h : But rb w w') : FrX rb N w w' := ⟨h.os, h.tape, h.output, h.size, fun k hk hn _ => h.block k hk hn⟩
theorem FrX.fr {rb N : Nat} {w w' : World} (h : FrR N w w') : FrX rb N w w' := ⟨h.os, h.tape, h.output, h.size, fun k hk _ hc => h.block k hk hc⟩
theorem FrX.of {rb N : Nat} {w w' : World} (h : Below w.heap.size w w') : FrX rb N w w' := ⟨h.os, h.tape, h.output, h.size, fun k hk _ _ => h.block k hk⟩
theorem FrX.drewN {rb N : Nat} {w w' : World} (h : FrX rb N w w') (n : Nat) : FrX rb N w (w'.drewN n) := ⟨h.os, h.tape, h.output, h.size, h.block⟩
theorem FrX.below {rb N : Nat} {w w' : World} (h : FrX rb N w w') (hN : N ≤ w.heap.size) (hb : N ≤ rb) : Below N w w' := ⟨h.os, h.tape, h.output, h.size, fun k hk => h.block k (by omega) (by omega) (.inl hk)⟩
theorem FrX.row {rb N : Nat} {w w' : World} (h : FrX rb N w w') {g : Nat} {t : TypeId} {c : Array Value} (hr : Row w g t c) (hn : g ≠ rb) (ht : t ≠ 21) : Row w' g t c := hr.same (h.block g hr.lt hn (.inr ⟨t, c, hr, ht⟩))
/-- A reader's block is no row of runes. -/
theorem OwnR.but {N rb : Nat} {w w' : World} {v : Value} {d : List Int} (h : OwnR N w v d) (hb : But rb w w') {c : Array Value} (hr : Row w rb 45 c) : OwnR N w' v d :=
  h.same fun g hg => let ⟨_, _, r⟩ := h.lt g hg; hb.block g r.lt (own_neR h hr (by decide) g hg)
set_option maxRecDepth 100000 in
set_option maxHeartbeats 4000000 in
theorem isThere_any (rb : Nat) (m : Bool) (S : List UInt8) (w : World) (h : Row w rb 45 (rdC m S)) : Calls Tryd.prog 28 #[.pointer (some ⟨rb, 0, none⟩)] w fun e w' => e = .returned (.bool m) ∧ w' = w := by
  have c0 : w.cell? ⟨rb, 0, none⟩ = some (.bool m) := by rw [h.cell]; rfl
  clear h
  go_enter Tryd.func28, Tryd.ntmps28
  go_wp2_with fail
  go_ret
  exact ⟨rfl, rfl⟩
set_option maxRecDepth 100000 in
set_option maxHeartbeats 4000000 in
theorem isThere_nil (w : World) : Calls Tryd.prog 28 #[.pointer none] w fun e w' => e = .returned (.bool false) ∧ w' = w := by
  go_enter Tryd.func28, Tryd.ntmps28
  go_wp2_with fail
  go_ret
  exact ⟨rfl, rfl⟩
set_option maxRecDepth 100000 in
set_option maxHeartbeats 4000000 in
theorem new_any (w : World) : Calls Tryd.prog 16 #[] w fun e w' => e = .returned (.pointer (some ⟨w.heap.size, 0, none⟩)) ∧ Row w' w.heap.size 45 (rdC true []) ∧ Below w.heap.size w w' := by
  go_enter Tryd.func16, Tryd.ntmps16
  go_wp2_with fail
  go_ret
  exact ⟨rfl, Row.new _ _ _, (Below.refl _ _).alloc (Nat.le_refl _) _⟩
set_option maxRecDepth 100000 in
set_option maxHeartbeats 4000000 in
theorem waits_any (rb : Nat) (S : List UInt8) (w : World) (h : Row w rb 45 (rdC true S)) : Calls Tryd.prog 19 #[.pointer (some ⟨rb, 0, none⟩)] w fun e w' => e = .returned (.int .i64 (S.length : Int)) ∧ w' = w := by
  have c0 : w.cell? ⟨rb, 4, none⟩ = some (.int .i64 (S.length : Int)) := by rw [h.cell]; rfl
  have HI := Box'.mk (isThere_any rb true S w h)
  clear h
  go_enter Tryd.func19, Tryd.ntmps19
  go_wp2_with fail
  refine HI.out.mono ?_
  rintro e w1 ⟨rfl, rfl⟩
  clear HI
  go_wp2_with fail
  go_ret
  exact ⟨rfl, rfl⟩
set_option maxRecDepth 100000 in
set_option maxHeartbeats 4000000 in
theorem waits_nil (w : World) : Calls Tryd.prog 19 #[.pointer none] w fun e w' => e = .returned (.int .i64 0) ∧ w' = w := by
  have HI := Box'.mk (isThere_nil w)
  go_enter Tryd.func19, Tryd.ntmps19
  go_wp2_with fail
  refine HI.out.mono ?_
  rintro e w1 ⟨rfl, rfl⟩
  clear HI
  go_wp2_with fail
  go_ret
  exact ⟨rfl, rfl⟩
set_option maxRecDepth 100000 in
set_option maxHeartbeats 4000000 in
theorem finish_any (rb N : Nat) (m : Bool) (S : List UInt8) (w : World) (h : Row w rb 45 (rdC m S)) (v : Value) (d : List Int) (ho : OwnR N w v d) (hN : N ≤ w.heap.size) (hd : d.length ≤ 1000000000) :
    Calls Tryd.prog 24 #[.pointer (some ⟨rb, 0, none⟩), v] w fun e w' => ∃ v', e = .returned v' ∧ Row w' rb 45 (rdC m []) ∧ OwnR N w' v' (d ++ finF S) ∧ FrX rb N w w' := by
  have c0 : w.cell? ⟨rb, 4, none⟩ = some (.int .i64 (S.length : Int)) := by rw [h.cell]; rfl
  have HF := Box'.mk (forget_any rb m S w h)
  have HO := Box'.mk ho
  obtain ⟨a1, c1, hv⟩ := ho.slice
  cases S with
  | nil =>
    have HR := Box'.mk h
    clear h HF ho
    subst hv
    generalize d.length = dl at *
    simp only [List.length_nil] at c0
    go_enter Tryd.func24, Tryd.ntmps24
    go_wp2_with fail
    go_ret
    exact ⟨_, rfl, HR.out, by rw [show finF [] = [] from rfl, List.append_nil]; exact HO.out, FrX.refl _ _ _⟩
  | cons a t =>
    have HR := Box'.mk h
    have HD := Box'.mk hd
    have HN := Box'.mk hN
    clear h hd hN ho
    subst hv
    generalize hdl : d.length = dl at *
    have HDL := Box'.mk hdl
    clear hdl
    have hpos : (0 : Nat) < (a :: t).length := by simp
    generalize (a :: t).length = sl at *
    have hne : ¬ ((sl : Int) = 0) := by omega
    go_enter Tryd.func24, Tryd.ntmps24
    go_wp2_with fail
    refine HF.out.mono ?_
    rintro e w1 ⟨rfl, r1, b1⟩
    have o1 := HO.out.but b1 HR.out
    have HN1 : Box' (N ≤ w1.heap.size) := ⟨Nat.le_trans HN.out b1.size⟩
    have HR1 := Box'.mk r1
    have HB1 := Box'.mk b1
    have HO1 := Box'.mk o1
    clear HF HR HO r1 b1 o1 c0
    go_wp2_with (refine wpList_appR rfl _ _ rfl N _ (Nat.le_trans HN1.out (by simp)) _ d rfl (HO1.out.alloc _) _ [65533] rfl (one_inR w1 65533) (by rw [HDL.out]; have := HD.out; simp; omega) ?_; intro v2 w2 o2 f2)
    have F2 : FrR N w1 w2 := ((FrR.refl N w1).alloc _).trans f2
    have R2 := F2.row HR1.out (by decide)
    have X2 := (FrX.but (N := N) HB1.out).trans (FrX.fr (rb := rb) F2)
    clear f2 F2 HR1 HB1 HO1
    go_wp2_with fail
    go_ret
    exact ⟨_, rfl, R2, o2, X2⟩
end Go.Proofs.YtfnlnbdlahckeaaDoor
