/- Two senders side by side; a script that came in. -/
import Derived.Test.YtikkekdmahdgaaaRu
import Derived.Test.YtikkekdmahdgaaaRn
import Derived.Test.YtikkekdmahdgaaaGy
namespace Go.Proofs.Ytikkekdmahdgaaa
open Go.RowKit Go.BigFrame
set_option linter.unusedSimpArgs false
set_option linter.unusedVariables false

/-- A call of a script. -/
structure Op' where
  c : UInt8
  a : UInt64
  b : Int
  d : Int
  t : List UInt8
def Op'.none : Op' := ⟨0, 0, 0, 0, []⟩
def OpAt (w : World) (b o : Nat) (x : Op') : Prop := w.cell? ⟨b, o, none⟩ = some (.int .u8 (x.c.toNat : Int)) ∧ w.cell? ⟨b, o + 1, none⟩ = some (.int .u64 (x.a.toNat : Int)) ∧ w.cell? ⟨b, o + 2, none⟩ = some (.int .i64 x.b) ∧ w.cell? ⟨b, o + 3, none⟩ = some (.int .i64 x.d) ∧ w.cell? ⟨b, o + 4, none⟩ = some (.string ⟨x.t.toArray⟩) ∧ -9223372036854775808 ≤ x.b ∧ x.b < 9223372036854775808 ∧ -9223372036854775808 ≤ x.d ∧ x.d < 9223372036854775808
def OpsL (N : Nat) (w : World) (v : Value) (xs : List Op') : Prop := ∃ a c, v = .slice a xs.length c ∧ xs.length ≤ c ∧ ∀ k, k < xs.length → ∃ b o, a = some ⟨b, o, Option.none⟩ ∧ b < N ∧ OpAt w b (o + k * 5) (xs.getD k Op'.none)
theorem OpsL.below {N : Nat} {w w' : World} {v : Value} {xs : List Op'} (h : OpsL N w v xs) (hb : Below N w w') : OpsL N w' v xs := by
  obtain ⟨a, c, h1, h2, h3⟩ := h
  refine ⟨a, c, h1, h2, fun k hk => ?_⟩
  obtain ⟨b, o, q1, q2, e0, e1, e2, e3, e4, e5⟩ := h3 k hk
  have ce : ∀ q, w'.cell? ⟨b, q, Option.none⟩ = w.cell? ⟨b, q, Option.none⟩ := fun q => hb.cell (p := ⟨b, q, Option.none⟩) q2
  exact ⟨b, o, q1, q2, (ce _).trans e0, (ce _).trans e1, (ce _).trans e2, (ce _).trans e3, (ce _).trans e4, e5⟩
def txtK (xs : List Op') (k : Nat) : Nat := ((xs.take k).map fun x => x.t.length + 1).sum
theorem txtK_step (xs : List Op') (k : Nat) (h : k < xs.length) : txtK xs (k + 1) = txtK xs k + ((xs.getD k Op'.none).t.length + 1) := by
  unfold txtK
  rw [List.take_add_one, List.getElem?_eq_getElem h, show xs.getD k Op'.none = xs[k] by simp [h]]
  simp only [Option.toList, List.map_append, List.map_cons, List.map_nil, List.sum_append, List.sum_cons, List.sum_nil, Nat.add_zero]
theorem txtK_le (xs : List Op') (k : Nat) : txtK xs k ≤ txtK xs xs.length := by
  unfold txtK
  rw [List.take_length]
  have e : xs.map (fun x => x.t.length + 1) = (xs.take k).map (fun x => x.t.length + 1) ++ (xs.drop k).map (fun x => x.t.length + 1) := by rw [← List.map_append, List.take_append_drop]
  rw [e, List.sum_append]; omega
/-- The program's sender and the reference's, apart from one another, both at the state sd. -/
structure Tw (RS : World → (Nat → Prop) → Nat → Sd → Prop) (w0 wr : World) (p1 p2 : Nat) (F1 F2 : Nat → Prop) (sd : Sd) (B : Nat) : Prop where
  a : RS wr F1 p1 sd
  b : SnR wr F2 p2 sd
  d1 : ∀ j, F1 j → w0.heap.size ≤ j ∧ ¬ F2 j
  d2 : ∀ j, F2 j → w0.heap.size ≤ j
  be : Below w0.heap.size w0 wr
  tn : sd.now.length ≤ B
  tl : ∀ y, y ∈ sd.l → y.t.length ≤ B ∧ y.n.toNat ≤ B
section
variable {RS : World → (Nat → Prop) → Nat → Sd → Prop} {w0 wr w3 w4 : World} {p1 p2 : Nat} {F1 F2 F1' F2' : Nat → Prop} {sd s' : Sd} {B B' : Nat}
theorem Tw.below (K : KeepR RS) (h : Tw RS w0 wr p1 p2 F1 F2 sd B) (hb : Below wr.heap.size wr w3) : Tw RS w0 w3 p1 p2 F1 F2 sd B :=
  ⟨K.below h.a hb, SnR.keepR.below h.b hb, h.d1, h.d2, h.be.trans (hb.mono h.be.size), h.tn, h.tl⟩
theorem Tw.more (h : Tw RS w0 wr p1 p2 F1 F2 sd B) (hB : B ≤ B') : Tw RS w0 wr p1 p2 F1 F2 sd B' :=
  ⟨h.a, h.b, h.d1, h.d2, h.be, Nat.le_trans h.tn hB, fun y hy => ⟨Nat.le_trans (h.tl y hy).1 hB, Nat.le_trans (h.tl y hy).2 hB⟩⟩
theorem Tw.pos (h : Tw RS w0 wr p1 p2 F1 F2 sd B) : 0 < sd.l.length ∧ sd.l.length ≤ 32 := by
  obtain ⟨_, _, _, _, h1, h2⟩ := h.b
  exact ⟨h1, h2⟩
/-- The first one's call is behind. -/
theorem Tw.first (h : Tw RS w0 wr p1 p2 F1 F2 sd B) (t1 : Tch F1 wr w3) (n1 : ∀ k, F1' k → F1 k ∨ wr.heap.size ≤ k) : SnR w3 F2 p2 sd ∧ (∀ j, F1' j → w0.heap.size ≤ j ∧ ¬ F2 j) ∧ Below w0.heap.size w0 w3 := by
  have o := SnR.keepR.other h.b (fun j hj h1 => (h.d1 j h1).2 hj) t1 n1
  exact ⟨o.1, fun j hj => ⟨by rcases n1 j hj with q | q; exact (h.d1 j q).1; have := h.be.size; omega, fun h2 => o.2 j h2 hj⟩, h.be.trans (t1.below h.be.size fun j hj => (h.d1 j hj).1)⟩
/-- The second one's, too. -/
theorem Tw.second (K : KeepR RS) (ha : RS w3 F1' p1 s') (d1 : ∀ j, F1' j → w0.heap.size ≤ j ∧ ¬ F2 j) (d2 : ∀ j, F2 j → w0.heap.size ≤ j) (be : Below w0.heap.size w0 w3) (hb : SnR w4 F2' p2 s') (t2 : Tch F2 w3 w4) (n2 : ∀ k, F2' k → F2 k ∨ w3.heap.size ≤ k) (tn : s'.now.length ≤ B') (tl : ∀ y, y ∈ s'.l → y.t.length ≤ B' ∧ y.n.toNat ≤ B') : Tw RS w0 w4 p1 p2 F1' F2' s' B' := by
  have o := K.other ha (fun j hj h1 => (d1 j hj).2 h1) t2 n2
  exact ⟨o.1, hb, fun j hj => ⟨(d1 j hj).1, o.2 j hj⟩, fun j hj => by rcases n2 j hj with q | q; exact d2 j q; have := be.size; omega, be.trans (t2.below be.size d2), tn, tl⟩
end
theorem lastR_mem {l : List Rw} (h0 : 0 < l.length) : lastR l ∈ l := getD_mem (show l.length - 1 < l.length by omega)
theorem setA_mem (l : List Rw) (now : UInt64) (y : Rw) (h0 : 0 < l.length) (h : y ∈ setA l now) : ∃ z, z ∈ l ∧ y.t = z.t ∧ y.n = z.n := by
  unfold setA at h
  rcases List.mem_or_eq_of_mem_set h with q | q
  · exact ⟨y, q, rfl, rfl⟩
  · exact ⟨lastR l, lastR_mem h0, by rw [q], by rw [q]⟩
theorem tickF_txt (s : Sd) (now : UInt64) (pace timeout : Int) (B : Nat) (h0 : 0 < s.l.length) (hn : s.now.length ≤ B) (hl : ∀ y, y ∈ s.l → y.t.length ≤ B ∧ y.n.toNat ≤ B) : (tickF s now pace timeout).1.now.length ≤ B + 1 ∧ ∀ y, y ∈ (tickF s now pace timeout).1.l → y.t.length ≤ B + 1 ∧ y.n.toNat ≤ B + 1 := by
  have hn' : s.now.length ≤ B + 1 := by omega
  have hl' : ∀ y, y ∈ s.l → y.t.length ≤ B + 1 ∧ y.n.toNat ≤ B + 1 := fun y hy => by have := hl y hy; omega
  unfold tickF
  split
  · exact ⟨hn', hl'⟩
  · split
    · exact ⟨hn', hl'⟩
    · unfold sndF
      split
      · refine ⟨hn', fun y hy => ?_⟩
        have hr : ∀ z, z ∈ rowsT s now pace → z.t.length ≤ B + 1 ∧ z.n.toNat ≤ B + 1 := fun z hz => by
          unfold rowsT at hz
          split at hz
          · rw [List.mem_append, List.mem_singleton] at hz
            rcases hz with q | q
            · exact hl' z q
            · rw [q]
              refine ⟨hn', ?_⟩
              have := (hl _ (lastR_mem h0)).2
              show ((lastR s.l).n + 1).toNat ≤ _
              rw [UInt64.toNat_add]
              exact Nat.le_trans (Nat.mod_le _ _) (by simpa using this)
          · exact hl' z hz
        have hp : 0 < (rowsT s now pace).length := by
          unfold rowsT
          split
          · simp
          · exact h0
        obtain ⟨z, hz, e, e2⟩ := setA_mem _ _ _ hp hy
        rw [e, e2]; exact hr z hz
      · exact ⟨hn', hl'⟩
theorem ackF_txt (s : Sd) (n : UInt64) (B : Nat) (hn : s.now.length ≤ B) (hl : ∀ y, y ∈ s.l → y.t.length ≤ B ∧ y.n.toNat ≤ B) : (ackF s n).1.now.length ≤ B ∧ ∀ y, y ∈ (ackF s n).1.l → y.t.length ≤ B ∧ y.n.toNat ≤ B := by
  unfold ackF
  split
  · exact ⟨hn, fun y hy => hl y (List.mem_of_mem_drop hy)⟩
  · exact ⟨hn, hl⟩
end Go.Proofs.Ytikkekdmahdgaaa
