/- What may follow: the table, leadOf, mayFollow. -/
import Derived.Test.YtfnlnbdlahckeaaDoorP
namespace Go.Proofs.YtfnlnbdlahckeaaDoor
open Go.RowKit Go.BigFrame
set_option linter.unusedVariables false
set_option linter.unusedSimpArgs false

/-- The table's rows: first, last, size, low, high. -/
def ldF : Nat → Nat
  | 0 => 0 | 1 => 194 | 2 => 224 | 3 => 225 | 4 => 237 | 5 => 238 | 6 => 240 | 7 => 241 | _ => 244
def ldL : Nat → Nat
  | 0 => 127 | 1 => 223 | 2 => 224 | 3 => 236 | 4 => 237 | 5 => 239 | 6 => 240 | 7 => 243 | _ => 244
def ldS : Nat → Nat
  | 0 => 1 | 1 => 2 | 2 => 3 | 3 => 3 | 4 => 3 | 5 => 3 | 6 => 4 | 7 => 4 | _ => 4
def ldO : Nat → Nat
  | 0 => 0 | 1 => 128 | 2 => 160 | 3 => 128 | 4 => 128 | 5 => 128 | 6 => 144 | 7 => 128 | _ => 128
def ldH : Nat → Nat
  | 0 => 0 | 1 => 191 | 2 => 191 | 3 => 191 | 4 => 159 | 5 => 191 | 6 => 191 | 7 => 191 | _ => 143
/-- The table holds its rows. -/
structure Tab (w : World) : Prop where
  cells : ∀ k, k < 9 → w.rangeAt 0 (k * 5) [.int .u8 (ldF k : Int), .int .u8 (ldL k : Int), .int .i64 (ldS k : Int), .int .u8 (ldO k : Int), .int .u8 (ldH k : Int)]
  lt : 0 < w.heap.size
theorem Tab.below {N : Nat} {w w' : World} (h : Tab w) (hb : Below N w w') (hN : 0 < N) : Tab w' :=
  ⟨fun k hk => range_below (h.cells k hk) hb hN, Nat.lt_of_lt_of_le h.lt hb.size⟩
/-- What leadOf tells of a byte. -/
def LdOk (b : Nat) (v : Value) : Prop := ∃ f l o h : Nat, v = .agg #[.int .u8 (f : Int), .int .u8 (l : Int), .int .i64 (sz b : Int), .int .u8 (o : Int), .int .u8 (h : Int)] ∧ (2 ≤ sz b → o = lo b ∧ h = hi b)
theorem ld_row0 : (List.range 256).all (fun b => (List.range 9).all fun k => !(decide (ldF k ≤ b) && decide (b ≤ ldL k)) || (decide (sz b = ldS k) && (decide (sz b < 2) || (decide (ldO k = lo b) && decide (ldH k = hi b))))) = true := by decide +kernel
theorem ld_row {b : Nat} (hb : b < 256) {k : Nat} (hk : k < 9) (h1 : ldF k ≤ b) (h2 : b ≤ ldL k) : sz b = ldS k ∧ (2 ≤ sz b → ldO k = lo b ∧ ldH k = hi b) := by
  have h := List.all_eq_true.1 (List.all_eq_true.1 ld_row0 b (by simpa using hb)) k (by simpa using hk)
  simp only [h1, h2, decide_true, Bool.and_self, Bool.not_true, Bool.false_or, Bool.and_eq_true, decide_eq_true_eq, Bool.or_eq_true] at h
  exact ⟨h.1, fun h3 => h.2.elim (fun h4 => by omega) id⟩
theorem ld_none0 : (List.range 256).all (fun b => (List.range 9).any (fun k => decide (ldF k ≤ b) && decide (b ≤ ldL k)) || decide (sz b = 0)) = true := by decide +kernel
theorem ld_none {b : Nat} (hb : b < 256) (hn : ∀ k, k < 9 → ¬ (ldF k ≤ b ∧ b ≤ ldL k)) : sz b = 0 := by
  have h := List.all_eq_true.1 ld_none0 b (by simpa using hb)
  rw [Bool.or_eq_true, decide_eq_true_eq] at h
  refine h.elim (fun h => ?_) id
  obtain ⟨k, hk, h2⟩ := List.any_eq_true.1 h
  rw [Bool.and_eq_true, decide_eq_true_eq, decide_eq_true_eq] at h2
  exact absurd h2 (hn k (by simpa using hk))
set_option maxRecDepth 100000 in
theorem Tryd.info54 : (Tryd.prog.info? 54).map (·.size) = some 5 := by kernel_rfl
theorem ld_one (f l s o h : Int) : (#[Value.int .u8 f, .int .u8 l, .int .i64 s, .int .u8 o, .int .u8 h]).all (·.oneCell') = true := by simp [Value.oneCell']
theorem below_setRow {N : Nat} {w0 w : World} {b : Nat} (h : Below N w0 w) (hb : N ≤ b) (c : Array Value) : Below N w0 (w.setRow b c) :=
  ⟨h.os, h.tape, h.output, by simpa using h.size, fun k hk => by rw [setRow_other _ _ _ _ (by omega)]; exact h.block k hk⟩
set_option maxRecDepth 100000 in
set_option maxHeartbeats 4000000 in
theorem leadOf_any (b : Nat) (hb : b < 256) (w : World) (hT : Tab w) : Calls Tryd.prog 29 #[.int .u8 (b : Int)] w fun e w' => ∃ v, e = .returned v ∧ LdOk b v ∧ Below w.heap.size w w' := by
  obtain ⟨w0, hw0⟩ : ∃ w0, w0 = w.alloc (.cells #[.int .u8 0, .int .u8 0, .int .i64 0, .int .u8 0, .int .u8 0] 54) := ⟨_, rfl⟩
  have b0 : Below w.heap.size w w0 := by rw [hw0]; exact (Below.refl _ _).alloc (Nat.le_refl _) _
  have r0 : Row w0 w.heap.size 54 #[.int .u8 0, .int .u8 0, .int .i64 0, .int .u8 0, .int .u8 0] := by rw [hw0]; exact Row.new _ _ _
  have HT := Box'.mk (hT.below b0 hT.lt)
  have HB0 := Box'.mk b0
  have HR0 := Box'.mk r0
  clear hT b0 r0
  go_enter Tryd.func29, Tryd.ntmps29
  go_wp2_with fail
  rw [← hw0]
  clear hw0
  go_loopw [4] (fun i wr => ∃ k : Nat, i = .int .i64 (k : Int) ∧ k ≤ 9 ∧ Box' (∀ j, j < k → ¬ (ldF j ≤ b ∧ b ≤ ldL j)) ∧ wr = w0) (fun i _ => 9 - (intOf i).toNat)
  case atStart => exact ⟨0, rfl, by omega, ⟨fun j hj => by omega⟩, rfl⟩
  case round =>
    obtain ⟨k, rfl, hk, HE, rfl⟩ := hrel
    by_cases hlt : k < 9
    · have hrg := HT.out.cells k hlt
      have c0 : wr.cell? ⟨0, k * 5, none⟩ = some (.int .u8 (ldF k : Int)) := hrg 0 _ rfl
      have c1 : wr.cell? ⟨0, k * 5 + 1, none⟩ = some (.int .u8 (ldL k : Int)) := hrg 1 _ rfl
      have HRG := Box'.mk hrg
      clear hrg
      by_cases hx : ldF k ≤ b ∧ b ≤ ldL k
      · have LR := Box'.mk (ld_row hb hlt hx.1 hx.2)
        obtain ⟨hx1, hx2⟩ := hx
        have RM : Box' (Room wr w.heap.size 54 5) := ⟨⟨_, HR0.out, rfl⟩⟩
        generalize ldF k = F at *
        generalize ldL k = L at *
        generalize ldS k = S at *
        generalize ldO k = O at *
        generalize ldH k = H at *
        clear HE
        go_wp2_with (first
          | (refine wpList_load_mid rfl 54 (.tmp 22) rfl _ _ rfl _ _ HRG.out Tryd.underlying54 rfl Tryd.info54 ?_)
          | (refine wpList_store_row rfl 54 (.tmp 2) (.tmp 23) rfl w.heap.size rfl _ rfl 54 5 RM.out Tryd.info54 rfl (ld_one _ _ _ _ _) ?_))
        have rw1 : Row (wr.setRow w.heap.size #[.int .u8 (F : Int), .int .u8 (L : Int), .int .i64 (S : Int), .int .u8 (O : Int), .int .u8 (H : Int)]) w.heap.size 54 #[.int .u8 (F : Int), .int .u8 (L : Int), .int .i64 (S : Int), .int .u8 (O : Int), .int .u8 (H : Int)] := HR0.out.setRow _
        exact bodyPost_ret (v := .agg #[.int .u8 (F : Int), .int .u8 (L : Int), .int .i64 (S : Int), .int .u8 (O : Int), .int .u8 (H : Int)]) (results_row rfl _ w.heap.size rfl _ _ rw1 _ Tryd.underlying54 rfl 5 Tryd.info54 rfl) rfl ⟨_, rfl, ⟨F, L, O, H, by rw [LR.out.1], LR.out.2⟩, below_setRow HB0.out (Nat.le_refl _) _⟩
      · have HE2 : Box' (∀ j, j < k + 1 → ¬ (ldF j ≤ b ∧ b ≤ ldL j)) := ⟨fun j hj => by
          by_cases h : j = k
          · subst h; exact hx
          · exact HE.out j (by omega)⟩
        clear HE
        generalize ldF k = F at *
        generalize ldL k = L at *
        by_cases hx1 : F ≤ b
        · have hx2 : ¬ b ≤ L := fun h => hx ⟨hx1, h⟩
          clear hx
          go_wp2_with fail
          exact ⟨⟨k + 1, by go_num, by omega, HE2, by first | rfl | trivial⟩, by simp [intOf]; omega⟩
        · clear hx
          go_wp2_with fail
          exact ⟨⟨k + 1, by go_num, by omega, HE2, by first | rfl | trivial⟩, by simp [intOf]; omega⟩
    · obtain rfl : k = 9 := by omega
      have hz := ld_none hb HE.out
      have RM : Box' (Room wr w.heap.size 54 5) := ⟨⟨_, HR0.out, rfl⟩⟩
      clear HE
      go_wp2_with (refine wpList_store_row rfl 54 (.tmp 2) _ rfl w.heap.size rfl _ rfl 54 5 RM.out Tryd.info54 rfl (ld_one _ _ _ _ _) ?_)
      have rw1 : Row (wr.setRow w.heap.size #[.int .u8 0, .int .u8 0, .int .i64 0, .int .u8 0, .int .u8 0]) w.heap.size 54 #[.int .u8 0, .int .u8 0, .int .i64 0, .int .u8 0, .int .u8 0] := HR0.out.setRow _
      exact bodyPost_ret (v := .agg #[.int .u8 0, .int .u8 0, .int .i64 0, .int .u8 0, .int .u8 0]) (results_row rfl _ w.heap.size rfl _ _ rw1 _ Tryd.underlying54 rfl 5 Tryd.info54 rfl) rfl ⟨_, rfl, ⟨0, 0, 0, 0, by rw [hz]; rfl, fun h => by omega⟩, below_setRow HB0.out (Nat.le_refl _) _⟩
end Go.Proofs.YtfnlnbdlahckeaaDoor
