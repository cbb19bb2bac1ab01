/- Marks in every place, and behind the end; the walk of WireFresh. -/
import Derived.Test.YtciiaopbghjcnaaRv
namespace Go.Proofs.Ytciiaopbghjcnaa
open Go.RowKit Go.BigFrame
set_option linter.unusedSimpArgs false

theorem results30 (T : Array Value) (w : World) : (results Try.f30 T).run Try.prog w = .ok (.tuple #[]) w := by
  unfold results
  simp [go_sem]
theorem own_same {w w' : World} {g n cap : Nat} {xs : List Value} (h : w.ownsRow 0 5 1 (.slice (some ⟨g, 0, none⟩) n cap) n xs) (hs : w'.heap[g]? = w.heap[g]?) : w'.ownsRow 0 5 1 (.slice (some ⟨g, 0, none⟩) n cap) n xs := by
  refine ⟨h.1, ?_⟩
  rcases h.2 with ⟨e, _⟩ | ⟨g1, c1, cur, e1, e2, e3, e4⟩
  · cases e
  · have e1' := e1
    injection e1 with q1; injection q1 with q1; injection q1 with q1
    subst q1
    exact .inr ⟨g, c1, cur, e1', e2, by rw [hs]; exact e3, e4⟩
theorem own_cell {w : World} {g n cap : Nat} {xs : List Value} (h : w.ownsRow 0 5 1 (.slice (some ⟨g, 0, none⟩) n cap) n xs) (k : Nat) (hk : k < n) : ∃ u, w.cell? ⟨g, k, none⟩ = some u := by
  have hl := h.1
  have hx : xs[k]? = some (xs[k]'(by omega)) := List.getElem?_eq_getElem (by omega)
  have := World.ownsRow.cells h (g := g) rfl k _ hx
  rw [Addr.add_mid, Nat.zero_add] at this
  exact ⟨_, this⟩
theorem grown_trans {w a b : World} {g g' : Nat} (h1 : w.grownBy a (some g)) (h2 : a.grownBy b (some g')) (hg : g' = g ∨ w.heap.size ≤ g') : w.grownBy b (some g) :=
  ⟨h2.os.trans h1.os, h2.tape.trans h1.tape, h2.output.trans h1.output, Nat.le_trans h1.size h2.size, fun k hk hn => (h2.block k (Nat.lt_of_lt_of_le hk h1.size) (by
    intro e
    injection e with e
    rcases hg with rfl | hg
    · exact hn (by rw [e])
    · omega)).trans (h1.block k hk hn)⟩

set_option maxRecDepth 100000 in
set_option maxHeartbeats 2000000 in
theorem spoil_some (g n cap : Nat) (xs : List Value) (m : UInt8) (w : World) (h : w.ownsRow 0 5 1 (.slice (some ⟨g, 0, none⟩) n cap) n xs) (hn : n ≤ 100000) :
    Calls Try.prog 30 #[.slice (some ⟨g, 0, none⟩) n cap, .int .u8 (m.toNat : Int)] w fun e w' => e = .returned (.tuple #[]) ∧ w.grownBy w' (some g) := by
  obtain ⟨i0, i1, i2, i3, i4⟩ := Try.info5a
  have hgz : g < w.heap.size := (World.ownsRow.lt h g rfl).2
  go_enter Try.func30, Try.ntmps30
  go_wp2
  go_loopw [4] (fun i wr => ∃ k : Nat, k ≤ n ∧ i = .int .i64 k ∧ (∃ xs, wr.ownsRow 0 5 1 (.slice (some ⟨g, 0, none⟩) n cap) n xs) ∧ w.grownBy wr (some g)) (fun i _ => n - (intOf i).toNat)
  case atStart => exact ⟨0, by omega, rfl, ⟨_, h⟩, ⟨rfl, rfl, rfl, Nat.le_refl _, fun _ _ _ => rfl⟩⟩
  case round =>
    obtain ⟨k, hk, rfl, ⟨ys, ho⟩, hgr⟩ := hrel
    by_cases hkn : k < n
    · obtain ⟨u, c1⟩ := own_cell ho k hkn
      have f1 := World.ownsRow.frozenAt ho k
      go_wp2
      exact ⟨⟨k + 1, by omega, by go_num, ⟨_, (ho.stored k _).1⟩, grown_trans hgr (ho.stored k _).2 (.inl rfl)⟩, by simp [intOf]; omega⟩
    · have hk' : k = n := by omega
      subst hk'
      have hgz1 : g < wr.heap.size := (World.ownsRow.lt ho g rfl).2
      have ba : Below wr.heap.size wr (wr.alloc (.cells #[.int .u8 (m.toNat : Int), .int .u8 (m.toNat : Int), .int .u8 (m.toNat : Int)] 5)) := (Below.refl _ _).alloc (Nat.le_refl _) _
      have hza : (wr.alloc (.cells #[.int .u8 (m.toNat : Int), .int .u8 (m.toNat : Int), .int .u8 (m.toNat : Int)] 5)).heap.size = wr.heap.size + 1 := by simp
      have ga := World.grownBy_alloc wr (.cells #[.int .u8 (m.toNat : Int), .int .u8 (m.toNat : Int), .int .u8 (m.toNat : Int)] 5) (some g)
      have rn : Row (wr.alloc (.cells #[.int .u8 (m.toNat : Int), .int .u8 (m.toNat : Int), .int .u8 (m.toNat : Int)] 5)) wr.heap.size 5 #[.int .u8 (m.toNat : Int), .int .u8 (m.toNat : Int), .int .u8 (m.toNat : Int)] := Row.new _ _ _
      have hcl : ∀ j u, ([.int .u8 (m.toNat : Int), .int .u8 (m.toNat : Int), .int .u8 (m.toNat : Int)] : List Value)[j]? = some u → (wr.alloc (.cells #[.int .u8 (m.toNat : Int), .int .u8 (m.toNat : Int), .int .u8 (m.toNat : Int)] 5)).cell? ((⟨wr.heap.size, 0, none⟩ : Addr).add j) = some u := fun j u hu => by
        rw [Addr.add_mid, Nat.zero_add, rn.cell]
        simpa using hu
      have hone : ∀ u ∈ ([.int .u8 (m.toNat : Int), .int .u8 (m.toNat : Int), .int .u8 (m.toNat : Int)] : List Value), u.oneCell' = true := one_By [m, m, m]
      have oa := own_same ho (ba.block g hgz1)
      go_wp2_with (first
        | (refine wpList_append_at rfl (.tmp 19) (.tmp 23) 23 rfl 5 i0 _ 1 1 Try.underlying23 i1 i2 i3 i4 rfl (by decide) g k cap ys rfl oa ⟨wr.heap.size, 0, none⟩ 3 3 _ rfl rfl hcl hone (by unfold maxLen; omega) (by omega) (fun g' cp w2 ho2 hg2 hnew => ?_))
        | fail)
      have hgr2 : w.grownBy w2 (some g) := grown_trans (grown_trans hgr ga (.inl rfl)) hg2 (.inl rfl)
      have hgg : g' = g ∨ w.heap.size ≤ g' := by have := hgr.size; omega
      clear hg2 hnew hcl hone rn ga hza ba oa hgr ho hgz1 hgz i1 i2 i3 i4 h
      generalize hN : k + 3 = N at *
      go_wp2
      go_loopw [5] (fun i wr => ∃ k : Nat, k ≤ N ∧ i = .int .i64 k ∧ (∃ xs, wr.ownsRow 0 5 1 (.slice (some ⟨g', 0, none⟩) N cp) N xs) ∧ w.grownBy wr (some g)) (fun i _ => N - (intOf i).toNat)
      case atStart => exact ⟨0, by omega, rfl, ⟨_, ho2⟩, hgr2⟩
      case round =>
        clear ho2 hgr2
        obtain ⟨j, hj, rfl, ⟨zs, ho⟩, hgr⟩ := hrel
        by_cases hjn : j < N
        · obtain ⟨u, c1⟩ := own_cell ho j hjn
          have f1 := World.ownsRow.frozenAt ho j
          go_wp2
          exact ⟨⟨j + 1, by omega, by go_num, ⟨_, (ho.stored j _).1⟩, grown_trans hgr (ho.stored j _).2 hgg⟩, by simp [intOf]; omega⟩
        · obtain rfl : j = N := by omega
          go_wp2
          exact ⟨rfl, _, results30 _ _, rfl, hgr⟩

set_option maxRecDepth 100000 in
set_option maxHeartbeats 2000000 in
theorem spoil_nil (m : UInt8) (w : World) :
    Calls Try.prog 30 #[.slice none 0 0, .int .u8 (m.toNat : Int)] w fun e w' => e = .returned (.tuple #[]) ∧ w.grownBy w' (some w.heap.size) := by
  obtain ⟨i0, i1, i2, i3, i4⟩ := Try.info5a
  go_enter Try.func30, Try.ntmps30
  go_wp2
  go_loopw [4] (fun i wr => i = .int .i64 0 ∧ w = wr) (fun _ _ => 0)
  case atStart => exact ⟨rfl, rfl⟩
  case round =>
    obtain ⟨rfl, rfl⟩ := hrel
    have ba : Below w.heap.size w (w.alloc (.cells #[.int .u8 (m.toNat : Int), .int .u8 (m.toNat : Int), .int .u8 (m.toNat : Int)] 5)) := (Below.refl _ _).alloc (Nat.le_refl _) _
    have hza : (w.alloc (.cells #[.int .u8 (m.toNat : Int), .int .u8 (m.toNat : Int), .int .u8 (m.toNat : Int)] 5)).heap.size = w.heap.size + 1 := by simp
    have ga := World.grownBy_alloc w (.cells #[.int .u8 (m.toNat : Int), .int .u8 (m.toNat : Int), .int .u8 (m.toNat : Int)] 5) none
    have rn : Row (w.alloc (.cells #[.int .u8 (m.toNat : Int), .int .u8 (m.toNat : Int), .int .u8 (m.toNat : Int)] 5)) w.heap.size 5 #[.int .u8 (m.toNat : Int), .int .u8 (m.toNat : Int), .int .u8 (m.toNat : Int)] := Row.new _ _ _
    have hcl : ∀ j u, ([.int .u8 (m.toNat : Int), .int .u8 (m.toNat : Int), .int .u8 (m.toNat : Int)] : List Value)[j]? = some u → (w.alloc (.cells #[.int .u8 (m.toNat : Int), .int .u8 (m.toNat : Int), .int .u8 (m.toNat : Int)] 5)).cell? ((⟨w.heap.size, 0, none⟩ : Addr).add j) = some u := fun j u hu => by
      rw [Addr.add_mid, Nat.zero_add, rn.cell]
      simpa using hu
    have hone : ∀ u ∈ ([.int .u8 (m.toNat : Int), .int .u8 (m.toNat : Int), .int .u8 (m.toNat : Int)] : List Value), u.oneCell' = true := one_By [m, m, m]
    have on : (w.alloc (.cells #[.int .u8 (m.toNat : Int), .int .u8 (m.toNat : Int), .int .u8 (m.toNat : Int)] 5)).ownsRow w.heap.size 5 1 (.slice none 0 0) 0 [] := ⟨rfl, .inl ⟨rfl, rfl⟩⟩
    go_wp2_with (first
      | (refine wpList_append_own _ rfl (.tmp 19) (.tmp 23) 23 rfl w.heap.size 5 i0 _ 1 1 Try.underlying23 i1 i2 i3 i4 rfl (by decide) (.slice none 0 0) 0 [] rfl on ⟨w.heap.size, 0, none⟩ 3 3 _ rfl rfl hcl hone (by unfold maxLen; omega) (by omega) (by omega) (fun v2 w2 ho2 hg2 hnew => ?_))
      | fail)
    have hgr2 : w.grownBy w2 (some w.heap.size) := ⟨hg2.os, hg2.tape, hg2.output, by have := hg2.size; omega, fun k hk hn => (hg2.block k (by omega) (by simp [Value.ownBlock])).trans (ba.block k hk)⟩
    obtain ⟨g', cp, rfl, hgl, ho3⟩ : ∃ g' cp, v2 = .slice (some ⟨g', 0, none⟩) (0 + 3) cp ∧ w.heap.size ≤ g' ∧ ∃ xs, w2.ownsRow 0 5 1 (.slice (some ⟨g', 0, none⟩) (0 + 3) cp) (0 + 3) xs := by
      rcases ho2.2 with ⟨e, e2⟩ | ⟨g1, c1, cur, e1, e2, e3⟩
      · omega
      · exact ⟨g1, c1, e1, e2, _, ⟨ho2.1, .inr ⟨g1, c1, cur, rfl, Nat.zero_le _, e3⟩⟩⟩
    obtain ⟨xs2, ho2⟩ := ho3
    have hgg : g' = w.heap.size ∨ w.heap.size ≤ g' := .inr hgl
    clear hg2 hnew hcl hone rn ga hza ba on i1 i2 i3 i4
    generalize hN : 0 + 3 = N at *
    go_wp2
    go_loopw [5] (fun i wr => ∃ k : Nat, k ≤ N ∧ i = .int .i64 k ∧ (∃ xs, wr.ownsRow 0 5 1 (.slice (some ⟨g', 0, none⟩) N cp) N xs) ∧ w.grownBy wr (some w.heap.size)) (fun i _ => N - (intOf i).toNat)
    case atStart => exact ⟨0, by omega, rfl, ⟨_, ho2⟩, hgr2⟩
    case round =>
      clear ho2 hgr2
      obtain ⟨j, hj, rfl, ⟨zs, ho⟩, hgr⟩ := hrel
      by_cases hjn : j < N
      · obtain ⟨u, c1⟩ := own_cell ho j hjn
        have f1 := World.ownsRow.frozenAt ho j
        go_wp2
        exact ⟨⟨j + 1, by omega, by go_num, ⟨_, (ho.stored j _).1⟩, grown_trans hgr (ho.stored j _).2 hgg⟩, by simp [intOf]; omega⟩
      · obtain rfl : j = N := by omega
        go_wp2
        exact ⟨rfl, _, results30 _ _, rfl, hgr⟩
theorem spoil_any {N : Nat} {w : World} {v : Value} {d : List UInt8} (m : UInt8) (h : OwnB N w v d) (hd : d.length ≤ 100000) :
    Calls Try.prog 30 #[v, .int .u8 (m.toNat : Int)] w fun e w' => e = .returned (.tuple #[]) ∧ w.grownBy w' v.ownBlock := by
  rcases h.2 with ⟨rfl, _⟩ | ⟨g, cap, cur, rfl, e2, e3⟩
  · refine (spoil_nil m w).mono fun e w' hh => ⟨hh.1, ?_⟩
    obtain ⟨_, q⟩ := hh
    exact ⟨q.os, q.tape, q.output, q.size, fun k hk _ => q.block k hk (fun e => by injection e with e; omega)⟩
  · exact spoil_some g d.length cap (d.map B) m w ⟨h.1, .inr ⟨g, cap, cur, rfl, Nat.zero_le _, e3⟩⟩ hd
/-- Where the bytes of the events of a row of one's own lie. -/
theorem OwnE.at1 {N : Nat} {w : World} {v : Value} {l : List (Ev × Value)} (h : OwnE N w v l) : ∃ a c, v = .slice a l.length c ∧ ∀ k (hk : k < l.length), ∃ b o, a = some ⟨b, o, none⟩ ∧ v.ownBlock = some b ∧ w.cell? ⟨b, o + k * 5 + 1, none⟩ = some (l[k]).2 := by
  rcases h.row.2 with ⟨e, e0⟩ | ⟨g, cap, cur, e1, e2, e3, e4, e5, e6, e7⟩
  · exact ⟨none, 0, by rw [e, e0], fun k hk => by omega⟩
  · refine ⟨_, cap, e1, fun k hk => ⟨g, 0, rfl, by rw [e1]; rfl, ?_⟩⟩
    have hf := flat_at l k 1 hk (by decide)
    have := World.ownsRow.cells h.row (g := g) (by rw [e1]; rfl) (k * 5 + 1) (l[k]).2 (by rw [hf]; rfl)
    rw [Addr.add_mid] at this
    rw [show 0 + k * 5 + 1 = 0 + (k * 5 + 1) by omega]
    exact this
theorem rdI_len (b : List UInt8) : (rdI b).1.dif.length ≤ 100000 := by
  unfold rdI
  cases h : insR b with
  | error x => simp
  | ok p =>
    obtain ⟨x, r⟩ := p
    obtain ⟨_, _, e3⟩ := insR_form h
    cases r with
    | nil => simp only; omega
    | cons c t => simp
theorem rdE_may (b : List UInt8) : ∀ x ∈ (rdE b).1, x.byt.length ≤ 100000 := by
  unfold rdE
  split
  · simp
  · cases he : evsR b with
    | error x => simp
    | ok p =>
      obtain ⟨xs, r⟩ := p
      cases r with
      | cons c t => simp
      | nil =>
        simp only
        unfold evsR at he
        cases hn : numF b with
        | error x => rw [hn] at he; cases he
        | ok q =>
          rw [hn] at he
          simp only at he
          split at he
          · cases he
          · obtain ⟨_, _, e3⟩ := evlR_form he
            intro x hx
            rcases may_cases (e3 x hx) with ⟨_, q, _⟩ | ⟨_, q, _⟩ | ⟨_, q, _⟩
            · omega
            · rw [q]; simp
            · rw [q]; simp

set_option maxRecDepth 100000 in
set_option maxHeartbeats 8000000 in
theorem fresh_any (w : World) (vb : Value) (b : List UInt8) (hb : b.length ≤ 140737488351232) (h : InB w.heap.size w vb b) :
    Calls Try.prog 8 #[vb] w fun e w' => e = .returned (.bool true) ∧ Below w.heap.size w w' := by
  have cp := copy_any (· < w.heap.size) vb b w h.bts (fun _ h => h) hb
  have HI : Box' (∀ w1, Below w.heap.size w w1 → InB w.heap.size w1 vb b) := ⟨fun w1 q => h.below q (Nat.le_refl _)⟩
  have E2 : Box' (∀ w1, Below w.heap.size w w1 → Calls Try.prog 23 #[vb] w1 (EEnd w1 (rdE b))) := ⟨fun w1 q => refReadEvents_any w1 vb b hb ((h.below q (Nat.le_refl _)).up q.size)⟩
  have RL := Box'.mk (rdI_len b)
  have RM := Box'.mk (rdE_may b)
  have RN := Box'.mk (rdE_len b)
  obtain ⟨ab, cb, rfl, _⟩ := h.slice
  have HB := Box'.mk hb
  clear h
  go_enter Try.func8, Try.ntmps8
  go_wp2_with fail
  refine cp.mono ?_
  rintro e w1 ⟨vc, rfl, oc, b1⟩
  have B1 := Box'.mk b1
  have OC := Box'.mk oc.inB
  have CC : Box' (∀ w2, Below w1.heap.size w1 w2 → InB w2.heap.size w2 vc b) := ⟨fun w2 q => (OC.out.below q (Nat.le_refl _)).up q.size⟩
  have rd := read_any w1 vc b (by omega) oc.inB
  obtain ⟨ac, cc, rfl⟩ := oc.slice
  clear cp oc b1
  generalize hbl : b.length = bl at *
  have HBL := Box'.mk hbl
  clear hbl
  generalize rdI b = RI at *
  obtain ⟨⟨y0, y1, y2, y3, ydif⟩, XI⟩ := RI
  go_wp2_with fail
  refine rd.mono ?_
  rintro e w2 ⟨vd, rfl, od, b2⟩
  simp only at od RL ⊢
  obtain ⟨w3, hw3⟩ : ∃ w3, w3 = w2.alloc (.cells #[.int .u64 (y0 : Int), .int .u64 (y1 : Int), .int .u64 (y2 : Int), .int .u64 (y3 : Int), vd] 34) := ⟨_, rfl⟩
  have b3 : Below w2.heap.size w2 w3 := by rw [hw3]; exact (Below.refl _ _).alloc (Nat.le_refl _) _
  have R3 : Box' (Row w3 w2.heap.size 34 #[.int .u64 (y0 : Int), .int .u64 (y1 : Int), .int .u64 (y2 : Int), .int .u64 (y3 : Int), vd]) := ⟨by rw [hw3]; exact Row.new _ _ _⟩
  have B13 : Box' (Below w1.heap.size w1 w3) := ⟨b2.trans (b3.mono b2.size)⟩
  have OD := Box'.mk (od.below b3)
  have ev := readEvents_any w3 _ b (by rw [HBL.out]; have := HB.out; omega) (CC.out w3 B13.out)
  obtain ⟨ad, cd, rfl⟩ := od.slice
  clear rd b2 b3 od
  rw [hw3] at ev
  obtain ⟨RE, hRE⟩ : ∃ RE, RE = rdE b := ⟨_, rfl⟩
  have RDE := Box'.mk hRE.symm
  rw [← hRE] at ev RM RN E2
  clear hRE
  obtain ⟨XL, XE⟩ := RE
  simp only at RM RN
  go_wp2_with fail
  refine ev.mono ?_
  rw [← hw3]
  rintro e w4 ⟨v4, ps, rfl, hps, oe, b4⟩
  simp only at hps ⊢
  have RP : Box' (∀ k (hk : k < ps.length), (ps[k]).1.byt.length ≤ 100000) := ⟨fun k hk => RM.out _ (by rw [← hps]; exact List.mem_map.2 ⟨_, List.getElem_mem hk, rfl⟩)⟩
  have B14 : Box' (Below w1.heap.size w1 w4) := ⟨B13.out.trans (b4.mono B13.out.size)⟩
  have hz34 := b4.size
  have od4 := OD.out.below b4
  have r4 := R3.out.below b4 R3.out.lt
  have k4 : w4.cell? ⟨w2.heap.size, 4, none⟩ = some (.slice ad ydif.length cd) := by rw [r4.cell]; rfl
  have sp := spoil_any 4 od4 RL.out
  have OE := Box'.mk oe
  have DLT : Box' (∀ g, (Value.slice ad ydif.length cd).ownBlock = some g → w1.heap.size ≤ g ∧ g < w3.heap.size) := ⟨fun g hg => by
    obtain ⟨q1, cur, q2⟩ := OD.out.lt g hg
    exact ⟨q1, q2.lt⟩⟩
  have HPS := Box'.mk hps
  clear ev b4 oe od4 r4 R3 OD RM hw3 hps
  generalize ydif.length = yn at *
  obtain ⟨pb, hpb⟩ : ∃ pb, pb = w2.heap.size := ⟨_, rfl⟩
  rw [← hpb] at k4
  rw [← hpb]
  clear hpb
  have sp' : Calls Try.prog 30 #[.slice ad yn cd, .int .u8 4] w4 fun e w' => e = .returned (.tuple #[]) ∧ w4.grownBy w' (Value.slice ad yn cd).ownBlock := sp
  clear sp
  go_wp2_with fail
  refine sp'.mono ?_
  rintro e w5 ⟨rfl, g5⟩
  clear sp' k4
  -- behind the first marks
  have B15 : Box' (Below w1.heap.size w1 w5) := ⟨B14.out.trans ⟨g5.os, g5.tape, g5.output, g5.size, fun k hk => g5.block k (Nat.lt_of_lt_of_le hk B14.out.size) fun e => by have := (DLT.out k e.symm).1; omega⟩⟩
  have oe5 : OwnE w3.heap.size w5 v4 ps := by
    refine OE.out.same (fun g hg => ?_) fun p hp => (OE.out.own p hp).same fun g hg => ?_
    · obtain ⟨q1, cur, q2⟩ := OE.out.lt g hg
      exact g5.block g q2.lt fun e => by have := (DLT.out g e.symm).2; omega
    · obtain ⟨q1, cur, q2⟩ := (OE.out.own p hp).lt g hg
      exact g5.block g q2.lt fun e => by have := (DLT.out g e.symm).2; omega
  have hz13 := B13.out.size
  have OE5 := Box'.mk oe5
  obtain ⟨a4, c4, rfl, hat⟩ := oe5.at1
  have HAT := Box'.mk hat
  have E4 : Box' (∀ w6, Below w1.heap.size w1 w6 → Calls Try.prog 22 #[.slice ac bl cc] w6 (EEnd w6 (XL, XE))) := ⟨fun w6 q => by
    have := readEvents_any w6 _ b (by rw [HBL.out]; have := HB.out; omega) (CC.out w6 q)
    rwa [RDE.out] at this⟩
  clear oe5 hat g5 B14 OE DLT
  have DIS := Box'.mk OE5.out.dis
  have hpl4 : ps.length ≤ 4096 := by have := RN.out; rw [← HPS.out, List.length_map] at this; exact this
  go_wp2_with fail
  go_loopw [8] (fun i wr => ∃ k : Nat, i = .int .i64 (k : Int) ∧ k ≤ ps.length ∧ Box' (Below w1.heap.size w1 wr) ∧ Box' (∀ g, (Value.slice a4 ps.length c4).ownBlock = some g → wr.heap[g]? = w5.heap[g]?) ∧ Box' (∀ j (hj : j < ps.length), k ≤ j → OwnB w3.heap.size wr (ps[j]).2 (ps[j]).1.byt)) (fun i _ => ps.length - (intOf i).toNat)
  case atStart => exact ⟨0, rfl, Nat.zero_le _, B15, ⟨fun _ _ => rfl⟩, ⟨fun j hj _ => OE5.out.own _ (List.getElem_mem hj)⟩⟩
  case round =>
    obtain ⟨k, rfl, hk, BB, HG, HO⟩ := hrel
    by_cases hlt : k < ps.length
    · obtain ⟨gb, go, rfl, hob, hc⟩ := HAT.out k hlt
      have hcw : wr.cell? ⟨gb, go + k * 5 + 1, none⟩ = some (ps[k]).2 := by
        have e := HG.out gb hob
        simp only [World.cell?, e] at hc ⊢
        exact hc
      have ok := HO.out k hlt (Nat.le_refl _)
      have sp : Calls Try.prog 30 #[(ps[k]).2, .int .u8 5] wr fun e w' => e = .returned (.tuple #[]) ∧ wr.grownBy w' (ps[k]).2.ownBlock := spoil_any 5 ok (RP.out k hlt)
      have NX : Box' (∀ w6, wr.grownBy w6 (ps[k]).2.ownBlock → Below w1.heap.size w1 w6 ∧ (∀ g, (Value.slice (some ⟨gb, go, none⟩) ps.length c4).ownBlock = some g → w6.heap[g]? = w5.heap[g]?) ∧ (∀ j (hj : j < ps.length), k + 1 ≤ j → OwnB w3.heap.size w6 (ps[j]).2 (ps[j]).1.byt)) := ⟨fun w6 g6 => by
        refine ⟨BB.out.trans ⟨g6.os, g6.tape, g6.output, g6.size, fun q hq => g6.block q (Nat.lt_of_lt_of_le hq BB.out.size) fun e => ?_⟩, fun g hg => ?_, fun j hj hkj => (HO.out j hj (by omega)).same fun g hg => ?_⟩
        · have := (ok.lt q e.symm).1
          omega
        · obtain ⟨_, cur, q2⟩ := OE5.out.lt g hg
          have hr : Row wr g 55 cur := q2.same (HG.out g hg)
          refine (g6.block g hr.lt fun e => ?_).trans (HG.out g hg)
          obtain ⟨_, cur2, q3⟩ := ok.lt g e.symm
          unfold Row at hr q3
          rw [hr] at q3
          simp at q3
        · obtain ⟨_, cur, q2⟩ := (HO.out j hj (by omega)).lt g hg
          refine g6.block g q2.lt fun e => ?_
          have hd := List.pairwise_iff_getElem.1 DIS.out k j hlt hj (by omega)
          exact hd g e.symm hg⟩
      obtain ⟨ax, cx, hax⟩ := ok.slice
      rw [hax] at hcw sp NX
      clear hc ok HO HG BB hob hax
      generalize (ps[k]).1.byt.length = xn at *
      go_wp2_with fail
      refine sp.mono ?_
      rintro e w6 ⟨rfl, g6⟩
      obtain ⟨q1, q2, q3⟩ := NX.out w6 g6
      have Q1 := Box'.mk q1
      have Q2 := Box'.mk q2
      have Q3 := Box'.mk q3
      clear sp NX g6 hcw q1 q2 q3
      go_wp2_with fail
      exact ⟨⟨k + 1, by go_num, by omega, Q1, Q2, Q3⟩, by simp [intOf]; omega⟩
    · have hke : k = ps.length := by omega
      have hnlt : decide ((k : Int) < (ps.length : Int)) = false := decide_eq_false (by omega)
      have ev := E4.out wr BB.out
      have BBw : Box' (Below w.heap.size w wr) := ⟨B1.out.trans (BB.out.mono B1.out.size)⟩
      clear HAT HO HG DIS OE5 RP E4
      clear hke
      go_wp2_with fail
      refine ev.mono ?_
      rintro e w6 ⟨v6, ps6, rfl, hp6, o6, b6⟩
      simp only at hp6 ⊢
      have B6 := Box'.mk (BBw.out.trans (b6.mono BBw.out.size))
      have C6 : Box' (Below w1.heap.size w1 w6) := ⟨BB.out.trans (b6.mono BB.out.size)⟩
      have ev2 := E2.out w6 B6.out
      have O6 := Box'.mk o6
      have HP6 := Box'.mk hp6
      clear ev b6 o6 hp6
      go_wp2_with fail
      refine ev2.mono ?_
      rintro e w7 ⟨v7, ps7, rfl, hp7, o7, b7⟩
      simp only at hp7 ⊢
      have B7 := Box'.mk (B6.out.trans (b7.mono B6.out.size))
      have C7 : Box' (Below w1.heap.size w1 w7) := ⟨C6.out.trans (b7.mono C6.out.size)⟩
      have O67 := Box'.mk (O6.out.below b7)
      have O7 := Box'.mk o7
      have HP7 := Box'.mk hp7
      clear hp7
      have an := anchored_any w7
      clear ev2 b7 o7 O6
      go_wp2_with fail
      refine an.mono ?_
      rintro e w8 ⟨rfl, b8⟩
      have B8 := Box'.mk (B7.out.trans (b8.mono B7.out.size))
      have C8 : Box' (Below w1.heap.size w1 w8) := ⟨C7.out.trans (b8.mono C7.out.size)⟩
      have e6 := (O67.out.below b8).evs
      have e7 := (O7.out.below b8).evs
      have sm := refSame_any _ _ _ _ _ _ w8 (HI.out w8 B8.out).bts (CC.out w8 C8.out).bts
      rw [decide_eq_true rfl] at sm
      have ls := lists_any w8 v6 v7 XL (by have := RN.out; omega) (by rw [← HP6.out]; exact e6) (by rw [← HP7.out]; exact e7)
      clear an b8 e6 e7
      have LS := Box'.mk ls
      clear ls
      go_wp2_with fail
      refine sm.mono ?_
      rintro e w9 ⟨rfl, rfl⟩
      have ls := LS.out
      clear sm LS
      go_wp2_with fail
      refine ls.mono ?_
      rintro e w10 ⟨rfl, b10⟩
      have B10 := Box'.mk (B8.out.trans (b10.mono B8.out.size))
      clear ls b10
      go_wp2_with fail
      go_ret
      exact ⟨rfl, B10.out⟩
end Go.Proofs.Ytciiaopbghjcnaa
