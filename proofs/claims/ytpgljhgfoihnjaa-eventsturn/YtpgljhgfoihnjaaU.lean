/- Bytes of their own: the walk of Copy. -/
import Derived.Test.YtpgljhgfoihnjaaC
import Derived.Laws.OwnMore
namespace Go.Proofs.Ytpgljhgfoihnjaa
open Go.RowKit Go.BigFrame

/-- The row g of cap places begins with the bytes d. -/
def Buf (w : World) (g cap : Nat) (d : List UInt8) : Prop := w.ownsRow 0 5 1 (.slice (some ⟨g, 0, none⟩) d.length cap) d.length (d.map B)
/-- append onto a row of one's own: where the row lies then. -/
theorem wpList_append_at {P : Program} {w : World} {ops : Array Oper} {rest : List Oper} {o : Oper} {a : Act} {Q : Exit → Act → World → Prop} (hgd : o.guard = none) (s x : Operand) (t : TypeId)
    (ho : o.op = .call { callee := .builtin .append, args := #[s, x], argTypes := #[t, t] })
    (e : TypeId) (i : TypeInfo) (z : Value) (size bytes : Nat) (ht : P.underlying t = some (.slice e)) (hi : P.info? e = some i) (hz : i.zero = some z)
    (hsize : i.size = size) (hby : i.bytes = bytes) (hzs : z.cells.size = size) (hsz : 0 < size)
    (g n cap : Nat) (xs : List Value) (hs : a.eval s = .slice (some ⟨g, 0, none⟩) n cap) (hown : w.ownsRow 0 e size (.slice (some ⟨g, 0, none⟩) n cap) n xs)
    (ad : Addr) (m c : Nat) (news : List Value) (hx : a.eval x = .slice (some ad) m c) (hl : news.length = m * size) (hnews : ∀ j u, news[j]? = some u → w.cell? (ad.add j) = some u) (h1 : ∀ u ∈ news, u.oneCell' = true)
    (h63 : n + m ≤ maxLen) (hbytes : (n + m) * bytes ≤ 140737488355328)
    (h : ∀ g' cap' w', w'.ownsRow 0 e size (.slice (some ⟨g', 0, none⟩) (n + m) cap') (n + m) (xs ++ news) → w.grownBy w' (some g) → (g' = g ∨ w.heap.size ≤ g') → wpList P ops Q rest (a.put o.dst (.slice (some ⟨g', 0, none⟩) (n + m) cap')) w') : wpList P ops Q (o :: rest) a w := by
  obtain ⟨v', w', hr, h2, h3, h4⟩ := run_append_own (P := P) w 0 t o.type e i z size bytes ht hi hz hsize hby hzs hsz _ n xs hown ad m c news hl hnews h1 h63 hbytes (Nat.zero_le _)
  have hv : ∃ g' cap', v' = .slice (some ⟨g', 0, none⟩) (n + m) cap' ∧ (g' = g ∨ w.heap.size ≤ g') := by
    subst hsize
    subst hby
    have hsmall : n + m ≤ 9223372036854775807 := by simp only [maxLen] at h63; omega
    rcases hown.2 with ⟨e', _⟩ | ⟨g1, cap1, cur, e1, hbg, hg, hnc, hcm, hcs, htake⟩
    · cases e'
    · have e1' := e1
      injection e1 with e2 _ e4
      injection e2 with e2
      injection e2 with e2
      subst e2 e4
      by_cases hroom : n + m ≤ cap
      · have hfit : n * i.size + news.length ≤ cur.size := by rw [hl, hcs, ← Nat.add_mul]; exact Nat.mul_le_mul_right _ hroom
        have hr' := run_append_room (P := P) w t o.type e i ht hi g n cap cur hg ad m c news hl hnews h1 hroom hfit
        rw [hr] at hr'
        injection hr' with q1 q2
        exact ⟨_, _, q1, .inl rfl⟩
      · have holds : ∀ j u, xs[j]? = some u → w.cell? ((⟨g, 0, none⟩ : Addr).add j) = some u := hown.cells (g := g) rfl
        have hr' := run_append_grow (P := P) w t o.type e i z ht hi hz ⟨g, 0, none⟩ n cap xs hown.1 holds ad m c news hl hnews (by omega) (by omega) (growslice_fits (by omega) hbytes)
        rw [hr] at hr'
        injection hr' with q1 q2
        exact ⟨_, _, q1, .inr (Nat.le_refl _)⟩
  obtain ⟨g', cap', rfl, hgg⟩ := hv
  refine wpList_plain hgd fun K hK => ?_
  unfold Oper.wp execOp
  simp only [ho, resolve, invoke, builtin, Sem.run_bind, Sem.run_pure, Result.andThen_ok, List.map_toArray, List.map_cons, List.map_nil, hs, hx, hr]
  exact hK _ _ (h g' cap' w' h2 h3 hgg)

set_option maxRecDepth 100000 in
set_option maxHeartbeats 1000000 in
theorem copy_buf (S : Nat → Prop) (v : Value) (l : List UInt8) (w : World) (h : Bts S w v l) (hS : ∀ b, S b → b < w.heap.size) (hm : l.length ≤ 140737488351232) :
    Calls Try.prog 20 #[v] w fun e w' => ∃ g cap, e = .returned (.slice (some ⟨g, 0, none⟩) l.length cap) ∧ Buf w' g cap l ∧ w.heap.size ≤ g ∧ Below w.heap.size w w' := by
  have b0 : Below w.heap.size w (w.alloc (.cells #[] 5)) := (Below.refl _ _).alloc (Nat.le_refl _) _
  have h' : Bts S (w.alloc (.cells #[] 5)) v l := h.keep fun b hb => ⟨hb, b0.block b (hS b hb)⟩
  clear h
  obtain ⟨a, c, rfl, hc, h3⟩ := h'
  have buf0 : Buf (w.alloc (.cells #[] 5)) w.heap.size 0 [] := ⟨rfl, .inr ⟨_, _, #[], rfl, Nat.zero_le _, Row.new w 5 #[], Nat.le_refl _, Nat.zero_le _, rfl, rfl⟩⟩
  have hz : (w.alloc (.cells #[] 5)).heap.size = w.heap.size + 1 := by simp
  cases a with
  | none =>
    obtain rfl : l = [] := by
      rcases h3 with h3 | ⟨b, o, h3, _⟩
      · exact h3
      · cases h3
    go_enter Try.func20, Try.ntmps20
    go_wp2
    go_ret
    exact ⟨_, _, rfl, buf0, Nat.le_refl _, b0⟩
  | some ad =>
    have hcl : ∀ j u, (l.map B)[j]? = some u → (w.alloc (.cells #[] 5)).cell? (ad.add j) = some u := by
      intro j u hu
      rcases h3 with rfl | ⟨b, o, h4, h5, h6⟩
      · simp at hu
      · injection h4 with h4
        subst h4
        rw [Addr.add_mid]
        exact h6 j u hu
    obtain ⟨i0, i1, i2, i3, i4⟩ := Try.info5a
    clear h3
    go_enter Try.func20, Try.ntmps20
    go_wp2_with (first
      | (refine wpList_append_at rfl (.tmp 3) (.tmp 4) 23 rfl 5 i0 _ 1 1 Try.underlying23 i1 i2 i3 i4 rfl (by decide) w.heap.size 0 0 [] rfl buf0 ad l.length c (l.map B) rfl (by rw [List.length_map, Nat.mul_one]) hcl (one_By l) (by unfold maxLen; omega) (by omega) (fun g cp w' ho hg hnew => ?_))
      | fail)
    rw [Nat.zero_add, List.nil_append] at ho
    have hB : Below w.heap.size w w' := ⟨hg.os.trans b0.os, hg.tape.trans b0.tape, hg.output.trans b0.output, Nat.le_trans b0.size hg.size, fun k hk => (hg.block k (by omega) (by simp; omega)).trans (b0.block k hk)⟩
    have hgg : w.heap.size ≤ g := by omega
    clear hg hnew hcl b0 buf0 hz i1 i2 i3 i4
    go_wp2
    go_ret
    exact ⟨_, _, rfl, ho, hgg, hB⟩
theorem copy_any (S : Nat → Prop) (v : Value) (l : List UInt8) (w : World) (h : Bts S w v l) (hS : ∀ b, S b → b < w.heap.size) (hm : l.length ≤ 140737488351232) :
    Calls Try.prog 20 #[v] w fun e w' => ∃ v', e = .returned v' ∧ OwnB w.heap.size w' v' l ∧ Below w.heap.size w w' := by
  refine (copy_buf S v l w h hS hm).mono fun e w' hh => ?_
  obtain ⟨g, cap, rfl, hb, hg, hbl⟩ := hh
  refine ⟨_, rfl, ⟨hb.1, ?_⟩, hbl⟩
  rcases hb.2 with ⟨e, _⟩ | ⟨g1, c1, cur, e1, _, e3⟩
  · cases e
  · have e2 := e1
    injection e1 with e1
    injection e1 with e1
    injection e1 with e1
    subst e1
    exact .inr ⟨g, c1, cur, e2, hg, e3⟩
theorem Row.ownB {w : World} {g N n : Nat} {l : List UInt8} (h : Row w g 5 (ag l)) (hn : l.length = n) (hN : N ≤ g) (hm : n ≤ 1000000) : OwnB N w (.slice (some ⟨g, 0, none⟩) n n) l := by
  subst hn
  exact ⟨by simp, .inr ⟨g, _, ag l, rfl, hN, h, Nat.le_refl _, by unfold maxLen; omega, by rw [ag_size]; omega, by have := List.take_of_length_le (l := l.map B) (i := l.length) (by simp); simpa [ag] using this⟩⟩
end Go.Proofs.Ytpgljhgfoihnjaa
