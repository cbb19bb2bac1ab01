/- Bytes of their own; marks in every place, and behind the end. -/
import Derived.Test.YtcjfaahlchbcmaaZ05
import Derived.Laws.OwnMore
namespace Go.Proofs.Ytcjfaahlchbcmaa
open Go.RowKit Go.BigFrame
set_option linter.unusedVariables false
set_option linter.unusedSimpArgs false

/-- The row g of cap places begins with the bytes d. -/
def Buf (w : World) (g cap : Nat) (d : List UInt8) : Prop := w.ownsRow 0 5 1 (.slice (some ⟨g, 0, none⟩) d.length cap) d.length (d.map B)
/-- append onto a row of one's own: where the row lies then. -/
theorem wpList_append_at {P : Program} {w : World} {ops : Array Oper} {rest : List Oper} {o : Oper} {a : Act} {Q : Exit → Act → World → Prop} (hgd : o.guard = none) (s x : Operand) (t : TypeId)
    (ho : o.op = .call { callee := .builtin .append, args := #[s, x], argTypes := #[t, t] })
    (e : TypeId) (i : TypeInfo) (z : Value) (size bytes : Nat) (ht : P.underlying t = some (.slice e)) (hi : P.info? e = some i) (hz : i.zero = some z)
    (hsize : i.size = size) (hby : i.bytes = bytes) (hzs : z.cells.size = size) (hsz : 0 < size)
    (g n cap : Nat) (xs : List Value) (hs : a.eval s = .slice (some ⟨g, 0, none⟩) n cap) (hown : w.ownsRow 0 e size (.slice (some ⟨g, 0, none⟩) n cap) n xs)
    (ad : Addr) (m c : Nat) (news : List Value) (hx : a.eval x = .slice (some ad) m c) (hl : news.length = m * size) (hnews : ∀ j u, news[j]? = some u → w.cell? (ad.add j) = some u) (h1 : ∀ u ∈ news, u.oneCell' = true)
    (h63 : n + m ≤ maxLen) (hbytes : (n + m) * bytes ≤ 140737488355328)
    (h : ∀ g' cap' w', w'.ownsRow 0 e size (.slice (some ⟨g', 0, none⟩) (n + m) cap') (n + m) (xs ++ news) → w.grownBy w' (some g) → (g' = g ∨ w.heap.size ≤ g') → wpList P ops Q rest (a.put o.dst (.slice (some ⟨g', 0, none⟩) (n + m) cap')) w') : wpList P ops Q (o :: rest) a w := by
  obtain ⟨v', w', hr, h2, h3, h4⟩ := run_append_own (P := P) w 0 t o.type e i z size bytes ht hi hz hsize hby hzs hsz _ n xs hown ad m c news hl hnews h1 h63 hbytes (Nat.zero_le _)
  have hv : ∃ g' cap', v' = .slice (some ⟨g', 0, none⟩) (n + m) cap' ∧ (g' = g ∨ w.heap.size ≤ g') := by
    subst hsize
    subst hby
    have hsmall : n + m ≤ 9223372036854775807 := by simp only [maxLen] at h63; omega
    rcases hown.2 with ⟨e', _⟩ | ⟨g1, cap1, cur, e1, hbg, hg, hnc, hcm, hcs, htake⟩
    · cases e'
    · have e1' := e1
      injection e1 with e2 _ e4
      injection e2 with e2
      injection e2 with e2
      subst e2 e4
      by_cases hroom : n + m ≤ cap
      · have hfit : n * i.size + news.length ≤ cur.size := by rw [hl, hcs, ← Nat.add_mul]; exact Nat.mul_le_mul_right _ hroom
        have hr' := run_append_room (P := P) w t o.type e i ht hi g n cap cur hg ad m c news hl hnews h1 hroom hfit
        rw [hr] at hr'
        injection hr' with q1 q2
        exact ⟨_, _, q1, .inl rfl⟩
      · have holds : ∀ j u, xs[j]? = some u → w.cell? ((⟨g, 0, none⟩ : Addr).add j) = some u := hown.cells (g := g) rfl
        have hr' := run_append_grow (P := P) w t o.type e i z ht hi hz ⟨g, 0, none⟩ n cap xs hown.1 holds ad m c news hl hnews (by omega) (by omega) (growslice_fits (by omega) hbytes)
        rw [hr] at hr'
        injection hr' with q1 q2
        exact ⟨_, _, q1, .inr (Nat.le_refl _)⟩
  obtain ⟨g', cap', rfl, hgg⟩ := hv
  refine wpList_plain hgd fun K hK => ?_
  unfold Oper.wp execOp
  simp only [ho, resolve, invoke, builtin, Sem.run_bind, Sem.run_pure, Result.andThen_ok, List.map_toArray, List.map_cons, List.map_nil, hs, hx, hr]
  exact hK _ _ (h g' cap' w' h2 h3 hgg)

set_option maxRecDepth 100000 in
set_option maxHeartbeats 1000000 in
theorem copy_any (S : Nat → Prop) (v : Value) (l : List UInt8) (w : World) (h : Bts S w v l) (hS : ∀ b, S b → b < w.heap.size) (hm : l.length ≤ 140737488351232) :
    Calls Try.prog 16 #[v] w fun e w' => ∃ g cap, e = .returned (.slice (some ⟨g, 0, none⟩) l.length cap) ∧ Buf w' g cap l ∧ w.heap.size ≤ g ∧ Below w.heap.size w w' := by
  have b0 : Below w.heap.size w (w.alloc (.cells #[] 5)) := (Below.refl _ _).alloc (Nat.le_refl _) _
  have h' : Bts S (w.alloc (.cells #[] 5)) v l := h.keep fun b hb => ⟨hb, b0.block b (hS b hb)⟩
  clear h
  obtain ⟨a, c, rfl, hc, h3⟩ := h'
  have buf0 : Buf (w.alloc (.cells #[] 5)) w.heap.size 0 [] := ⟨rfl, .inr ⟨_, _, #[], rfl, Nat.zero_le _, Row.new w 5 #[], Nat.le_refl _, Nat.zero_le _, rfl, rfl⟩⟩
  have hz : (w.alloc (.cells #[] 5)).heap.size = w.heap.size + 1 := by simp
  cases a with
  | none =>
    obtain rfl : l = [] := by
      rcases h3 with h3 | ⟨b, o, h3, _⟩
      · exact h3
      · cases h3
    go_enter Try.func16, Try.ntmps16
    go_wp2
    go_ret
    exact ⟨_, _, rfl, buf0, Nat.le_refl _, b0⟩
  | some ad =>
    have hcl : ∀ j u, (l.map B)[j]? = some u → (w.alloc (.cells #[] 5)).cell? (ad.add j) = some u := by
      intro j u hu
      rcases h3 with rfl | ⟨b, o, h4, h5, h6⟩
      · simp at hu
      · injection h4 with h4
        subst h4
        rw [Addr.add_mid]
        exact h6 j u hu
    obtain ⟨i0, i1, i2, i3, i4⟩ := Try.info5a
    clear h3
    go_enter Try.func16, Try.ntmps16
    go_wp2_with (first
      | (refine wpList_append_at rfl (.tmp 3) (.tmp 4) 23 rfl 5 i0 _ 1 1 Try.underlying23 i1 i2 i3 i4 rfl (by decide) w.heap.size 0 0 [] rfl buf0 ad l.length c (l.map B) rfl (by rw [List.length_map, Nat.mul_one]) hcl (one_By l) (by unfold maxLen; omega) (by omega) (fun g cp w' ho hg hnew => ?_))
      | fail)
    rw [Nat.zero_add, List.nil_append] at ho
    have hB : Below w.heap.size w w' := ⟨hg.os.trans b0.os, hg.tape.trans b0.tape, hg.output.trans b0.output, Nat.le_trans b0.size hg.size, fun k hk => (hg.block k (by omega) (by simp; omega)).trans (b0.block k hk)⟩
    have hgg : w.heap.size ≤ g := by omega
    clear hg hnew hcl b0 buf0 hz i1 i2 i3 i4
    go_wp2
    go_ret
    exact ⟨_, _, rfl, ho, hgg, hB⟩
theorem results17 (T : Array Value) (w : World) : (results Try.f17 T).run Try.prog w = .ok (.tuple #[]) w := by
  unfold results
  simp [go_sem]
theorem own_same {w w' : World} {g n cap : Nat} {xs : List Value} (h : w.ownsRow 0 5 1 (.slice (some ⟨g, 0, none⟩) n cap) n xs) (hs : w'.heap[g]? = w.heap[g]?) : w'.ownsRow 0 5 1 (.slice (some ⟨g, 0, none⟩) n cap) n xs := by
  refine ⟨h.1, ?_⟩
  rcases h.2 with ⟨e, _⟩ | ⟨g1, c1, cur, e1, e2, e3, e4⟩
  · cases e
  · have e1' := e1
    injection e1 with q1; injection q1 with q1; injection q1 with q1
    subst q1
    exact .inr ⟨g, c1, cur, e1', e2, by rw [hs]; exact e3, e4⟩
theorem own_cell {w : World} {g n cap : Nat} {xs : List Value} (h : w.ownsRow 0 5 1 (.slice (some ⟨g, 0, none⟩) n cap) n xs) (k : Nat) (hk : k < n) : ∃ u, w.cell? ⟨g, k, none⟩ = some u := by
  have hl := h.1
  have hx : xs[k]? = some (xs[k]'(by omega)) := List.getElem?_eq_getElem (by omega)
  have := World.ownsRow.cells h (g := g) rfl k _ hx
  rw [Addr.add_mid, Nat.zero_add] at this
  exact ⟨_, this⟩
theorem grown_trans {w a b : World} {g g' : Nat} (h1 : w.grownBy a (some g)) (h2 : a.grownBy b (some g')) (hg : g' = g ∨ w.heap.size ≤ g') : w.grownBy b (some g) :=
  ⟨h2.os.trans h1.os, h2.tape.trans h1.tape, h2.output.trans h1.output, Nat.le_trans h1.size h2.size, fun k hk hn => (h2.block k (Nat.lt_of_lt_of_le hk h1.size) (by
    intro e
    injection e with e
    rcases hg with rfl | hg
    · exact hn (by rw [e])
    · omega)).trans (h1.block k hk hn)⟩

set_option maxRecDepth 100000 in
set_option maxHeartbeats 2000000 in
theorem spoil_some (g n cap : Nat) (xs : List Value) (m : UInt8) (w : World) (h : w.ownsRow 0 5 1 (.slice (some ⟨g, 0, none⟩) n cap) n xs) (hn : n ≤ 100000) :
    Calls Try.prog 17 #[.slice (some ⟨g, 0, none⟩) n cap, .int .u8 (m.toNat : Int)] w fun e w' => e = .returned (.tuple #[]) ∧ w.grownBy w' (some g) := by
  obtain ⟨i0, i1, i2, i3, i4⟩ := Try.info5a
  have hgz : g < w.heap.size := (World.ownsRow.lt h g rfl).2
  go_enter Try.func17, Try.ntmps17
  go_wp2
  go_loopw [4] (fun i wr => ∃ k : Nat, k ≤ n ∧ i = .int .i64 k ∧ (∃ xs, wr.ownsRow 0 5 1 (.slice (some ⟨g, 0, none⟩) n cap) n xs) ∧ w.grownBy wr (some g)) (fun i _ => n - (intOf i).toNat)
  case atStart => exact ⟨0, by omega, rfl, ⟨_, h⟩, ⟨rfl, rfl, rfl, Nat.le_refl _, fun _ _ _ => rfl⟩⟩
  case round =>
    obtain ⟨k, hk, rfl, ⟨ys, ho⟩, hgr⟩ := hrel
    by_cases hkn : k < n
    · obtain ⟨u, c1⟩ := own_cell ho k hkn
      have f1 := World.ownsRow.frozenAt ho k
      go_wp2
      exact ⟨⟨k + 1, by omega, by go_num, ⟨_, (ho.stored k _).1⟩, grown_trans hgr (ho.stored k _).2 (.inl rfl)⟩, by simp [intOf]; omega⟩
    · have hk' : k = n := by omega
      subst hk'
      have hgz1 : g < wr.heap.size := (World.ownsRow.lt ho g rfl).2
      have ba : Below wr.heap.size wr (wr.alloc (.cells #[.int .u8 (m.toNat : Int), .int .u8 (m.toNat : Int), .int .u8 (m.toNat : Int)] 5)) := (Below.refl _ _).alloc (Nat.le_refl _) _
      have hza : (wr.alloc (.cells #[.int .u8 (m.toNat : Int), .int .u8 (m.toNat : Int), .int .u8 (m.toNat : Int)] 5)).heap.size = wr.heap.size + 1 := by simp
      have ga := World.grownBy_alloc wr (.cells #[.int .u8 (m.toNat : Int), .int .u8 (m.toNat : Int), .int .u8 (m.toNat : Int)] 5) (some g)
      have rn : Row (wr.alloc (.cells #[.int .u8 (m.toNat : Int), .int .u8 (m.toNat : Int), .int .u8 (m.toNat : Int)] 5)) wr.heap.size 5 #[.int .u8 (m.toNat : Int), .int .u8 (m.toNat : Int), .int .u8 (m.toNat : Int)] := Row.new _ _ _
      have hcl : ∀ j u, ([.int .u8 (m.toNat : Int), .int .u8 (m.toNat : Int), .int .u8 (m.toNat : Int)] : List Value)[j]? = some u → (wr.alloc (.cells #[.int .u8 (m.toNat : Int), .int .u8 (m.toNat : Int), .int .u8 (m.toNat : Int)] 5)).cell? ((⟨wr.heap.size, 0, none⟩ : Addr).add j) = some u := fun j u hu => by
        rw [Addr.add_mid, Nat.zero_add, rn.cell]
        simpa using hu
      have hone : ∀ u ∈ ([.int .u8 (m.toNat : Int), .int .u8 (m.toNat : Int), .int .u8 (m.toNat : Int)] : List Value), u.oneCell' = true := one_By [m, m, m]
      have oa := own_same ho (ba.block g hgz1)
      go_wp2_with (first
        | (refine wpList_append_at rfl (.tmp 19) (.tmp 23) 23 rfl 5 i0 _ 1 1 Try.underlying23 i1 i2 i3 i4 rfl (by decide) g k cap ys rfl oa ⟨wr.heap.size, 0, none⟩ 3 3 _ rfl rfl hcl hone (by unfold maxLen; omega) (by omega) (fun g' cp w2 ho2 hg2 hnew => ?_))
        | fail)
      have hgr2 : w.grownBy w2 (some g) := grown_trans (grown_trans hgr ga (.inl rfl)) hg2 (.inl rfl)
      have hgg : g' = g ∨ w.heap.size ≤ g' := by have := hgr.size; omega
      clear hg2 hnew hcl hone rn ga hza ba oa hgr ho hgz1 hgz i1 i2 i3 i4 h
      generalize hN : k + 3 = N at *
      go_wp2
      go_loopw [5] (fun i wr => ∃ k : Nat, k ≤ N ∧ i = .int .i64 k ∧ (∃ xs, wr.ownsRow 0 5 1 (.slice (some ⟨g', 0, none⟩) N cp) N xs) ∧ w.grownBy wr (some g)) (fun i _ => N - (intOf i).toNat)
      case atStart => exact ⟨0, by omega, rfl, ⟨_, ho2⟩, hgr2⟩
      case round =>
        clear ho2 hgr2
        obtain ⟨j, hj, rfl, ⟨zs, ho⟩, hgr⟩ := hrel
        by_cases hjn : j < N
        · obtain ⟨u, c1⟩ := own_cell ho j hjn
          have f1 := World.ownsRow.frozenAt ho j
          go_wp2
          exact ⟨⟨j + 1, by omega, by go_num, ⟨_, (ho.stored j _).1⟩, grown_trans hgr (ho.stored j _).2 hgg⟩, by simp [intOf]; omega⟩
        · obtain rfl : j = N := by omega
          go_wp2
          exact ⟨rfl, _, results17 _ _, rfl, hgr⟩

set_option maxRecDepth 100000 in
set_option maxHeartbeats 2000000 in
theorem spoil_nil (m : UInt8) (w : World) :
    Calls Try.prog 17 #[.slice none 0 0, .int .u8 (m.toNat : Int)] w fun e w' => e = .returned (.tuple #[]) ∧ w.grownBy w' (some w.heap.size) := by
  obtain ⟨i0, i1, i2, i3, i4⟩ := Try.info5a
  go_enter Try.func17, Try.ntmps17
  go_wp2
  go_loopw [4] (fun i wr => i = .int .i64 0 ∧ w = wr) (fun _ _ => 0)
  case atStart => exact ⟨rfl, rfl⟩
  case round =>
    obtain ⟨rfl, rfl⟩ := hrel
    have ba : Below w.heap.size w (w.alloc (.cells #[.int .u8 (m.toNat : Int), .int .u8 (m.toNat : Int), .int .u8 (m.toNat : Int)] 5)) := (Below.refl _ _).alloc (Nat.le_refl _) _
    have hza : (w.alloc (.cells #[.int .u8 (m.toNat : Int), .int .u8 (m.toNat : Int), .int .u8 (m.toNat : Int)] 5)).heap.size = w.heap.size + 1 := by simp
    have ga := World.grownBy_alloc w (.cells #[.int .u8 (m.toNat : Int), .int .u8 (m.toNat : Int), .int .u8 (m.toNat : Int)] 5) none
    have rn : Row (w.alloc (.cells #[.int .u8 (m.toNat : Int), .int .u8 (m.toNat : Int), .int .u8 (m.toNat : Int)] 5)) w.heap.size 5 #[.int .u8 (m.toNat : Int), .int .u8 (m.toNat : Int), .int .u8 (m.toNat : Int)] := Row.new _ _ _
    have hcl : ∀ j u, ([.int .u8 (m.toNat : Int), .int .u8 (m.toNat : Int), .int .u8 (m.toNat : Int)] : List Value)[j]? = some u → (w.alloc (.cells #[.int .u8 (m.toNat : Int), .int .u8 (m.toNat : Int), .int .u8 (m.toNat : Int)] 5)).cell? ((⟨w.heap.size, 0, none⟩ : Addr).add j) = some u := fun j u hu => by
      rw [Addr.add_mid, Nat.zero_add, rn.cell]
      simpa using hu
    have hone : ∀ u ∈ ([.int .u8 (m.toNat : Int), .int .u8 (m.toNat : Int), .int .u8 (m.toNat : Int)] : List Value), u.oneCell' = true := one_By [m, m, m]
    have on : (w.alloc (.cells #[.int .u8 (m.toNat : Int), .int .u8 (m.toNat : Int), .int .u8 (m.toNat : Int)] 5)).ownsRow w.heap.size 5 1 (.slice none 0 0) 0 [] := ⟨rfl, .inl ⟨rfl, rfl⟩⟩
    go_wp2_with (first
      | (refine wpList_append_own _ rfl (.tmp 19) (.tmp 23) 23 rfl w.heap.size 5 i0 _ 1 1 Try.underlying23 i1 i2 i3 i4 rfl (by decide) (.slice none 0 0) 0 [] rfl on ⟨w.heap.size, 0, none⟩ 3 3 _ rfl rfl hcl hone (by unfold maxLen; omega) (by omega) (by omega) (fun v2 w2 ho2 hg2 hnew => ?_))
      | fail)
    have hgr2 : w.grownBy w2 (some w.heap.size) := ⟨hg2.os, hg2.tape, hg2.output, by have := hg2.size; omega, fun k hk hn => (hg2.block k (by omega) (by simp [Value.ownBlock])).trans (ba.block k hk)⟩
    obtain ⟨g', cp, rfl, hgl, ho3⟩ : ∃ g' cp, v2 = .slice (some ⟨g', 0, none⟩) (0 + 3) cp ∧ w.heap.size ≤ g' ∧ ∃ xs, w2.ownsRow 0 5 1 (.slice (some ⟨g', 0, none⟩) (0 + 3) cp) (0 + 3) xs := by
      rcases ho2.2 with ⟨e, e2⟩ | ⟨g1, c1, cur, e1, e2, e3⟩
      · omega
      · exact ⟨g1, c1, e1, e2, _, ⟨ho2.1, .inr ⟨g1, c1, cur, rfl, Nat.zero_le _, e3⟩⟩⟩
    obtain ⟨xs2, ho2⟩ := ho3
    have hgg : g' = w.heap.size ∨ w.heap.size ≤ g' := .inr hgl
    clear hg2 hnew hcl hone rn ga hza ba on i1 i2 i3 i4
    generalize hN : 0 + 3 = N at *
    go_wp2
    go_loopw [5] (fun i wr => ∃ k : Nat, k ≤ N ∧ i = .int .i64 k ∧ (∃ xs, wr.ownsRow 0 5 1 (.slice (some ⟨g', 0, none⟩) N cp) N xs) ∧ w.grownBy wr (some w.heap.size)) (fun i _ => N - (intOf i).toNat)
    case atStart => exact ⟨0, by omega, rfl, ⟨_, ho2⟩, hgr2⟩
    case round =>
      clear ho2 hgr2
      obtain ⟨j, hj, rfl, ⟨zs, ho⟩, hgr⟩ := hrel
      by_cases hjn : j < N
      · obtain ⟨u, c1⟩ := own_cell ho j hjn
        have f1 := World.ownsRow.frozenAt ho j
        go_wp2
        exact ⟨⟨j + 1, by omega, by go_num, ⟨_, (ho.stored j _).1⟩, grown_trans hgr (ho.stored j _).2 hgg⟩, by simp [intOf]; omega⟩
      · obtain rfl : j = N := by omega
        go_wp2
        exact ⟨rfl, _, results17 _ _, rfl, hgr⟩
theorem spoilB_any {N : Nat} {w : World} {v : Value} {d : List UInt8} (m : UInt8) (h : OwnB N w v d) (hd : d.length ≤ 100000) :
    Calls Try.prog 17 #[v, .int .u8 (m.toNat : Int)] w fun e w' => e = .returned (.tuple #[]) ∧ w.grownBy w' v.ownBlock := by
  rcases h.2 with ⟨rfl, _⟩ | ⟨g, cap, cur, rfl, e2, e3⟩
  · refine (spoil_nil m w).mono fun e w' hh => ⟨hh.1, ?_⟩
    obtain ⟨_, q⟩ := hh
    exact ⟨q.os, q.tape, q.output, q.size, fun k hk _ => q.block k hk (fun e => by injection e with e; omega)⟩
  · exact spoil_some g d.length cap (d.map B) m w ⟨h.1, .inr ⟨g, cap, cur, rfl, Nat.zero_le _, e3⟩⟩ hd
end Go.Proofs.Ytcjfaahlchbcmaa
