/- Spoil on rows of any length. -/
import Derived.Test.YtpgljhgfoihnjaaFr
namespace Go.Proofs.Ytpgljhgfoihnjaa
open Go.RowKit Go.BigFrame


set_option maxRecDepth 100000 in
set_option maxHeartbeats 2000000 in
theorem spoilL_some (g n cap : Nat) (xs : List Value) (m : UInt8) (w : World) (h : w.ownsRow 0 5 1 (.slice (some ⟨g, 0, none⟩) n cap) n xs) (hn : n ≤ 140737488351232) :
    Calls Try.prog 21 #[.slice (some ⟨g, 0, none⟩) n cap, .int .u8 (m.toNat : Int)] w fun e w' => e = .returned (.tuple #[]) ∧ w.grownBy w' (some g) := by
  obtain ⟨i0, i1, i2, i3, i4⟩ := Try.info5a
  have hgz : g < w.heap.size := (World.ownsRow.lt h g rfl).2
  go_enter Try.func21, Try.ntmps21
  go_wp2
  go_loopw [4] (fun i wr => ∃ k : Nat, k ≤ n ∧ i = .int .i64 k ∧ (∃ xs, wr.ownsRow 0 5 1 (.slice (some ⟨g, 0, none⟩) n cap) n xs) ∧ w.grownBy wr (some g)) (fun i _ => n - (intOf i).toNat)
  case atStart => exact ⟨0, by omega, rfl, ⟨_, h⟩, ⟨rfl, rfl, rfl, Nat.le_refl _, fun _ _ _ => rfl⟩⟩
  case round =>
    obtain ⟨k, hk, rfl, ⟨ys, ho⟩, hgr⟩ := hrel
    by_cases hkn : k < n
    · obtain ⟨u, c1⟩ := own_cell ho k hkn
      have f1 := World.ownsRow.frozenAt ho k
      go_wp2
      exact ⟨⟨k + 1, by omega, by go_num, ⟨_, (ho.stored k _).1⟩, grown_trans hgr (ho.stored k _).2 (.inl rfl)⟩, by simp [intOf]; omega⟩
    · have hk' : k = n := by omega
      subst hk'
      have hgz1 : g < wr.heap.size := (World.ownsRow.lt ho g rfl).2
      have ba : Below wr.heap.size wr (wr.alloc (.cells #[.int .u8 (m.toNat : Int), .int .u8 (m.toNat : Int), .int .u8 (m.toNat : Int)] 5)) := (Below.refl _ _).alloc (Nat.le_refl _) _
      have hza : (wr.alloc (.cells #[.int .u8 (m.toNat : Int), .int .u8 (m.toNat : Int), .int .u8 (m.toNat : Int)] 5)).heap.size = wr.heap.size + 1 := by simp
      have ga := World.grownBy_alloc wr (.cells #[.int .u8 (m.toNat : Int), .int .u8 (m.toNat : Int), .int .u8 (m.toNat : Int)] 5) (some g)
      have rn : Row (wr.alloc (.cells #[.int .u8 (m.toNat : Int), .int .u8 (m.toNat : Int), .int .u8 (m.toNat : Int)] 5)) wr.heap.size 5 #[.int .u8 (m.toNat : Int), .int .u8 (m.toNat : Int), .int .u8 (m.toNat : Int)] := Row.new _ _ _
      have hcl : ∀ j u, ([.int .u8 (m.toNat : Int), .int .u8 (m.toNat : Int), .int .u8 (m.toNat : Int)] : List Value)[j]? = some u → (wr.alloc (.cells #[.int .u8 (m.toNat : Int), .int .u8 (m.toNat : Int), .int .u8 (m.toNat : Int)] 5)).cell? ((⟨wr.heap.size, 0, none⟩ : Addr).add j) = some u := fun j u hu => by
        rw [Addr.add_mid, Nat.zero_add, rn.cell]
        simpa using hu
      have hone : ∀ u ∈ ([.int .u8 (m.toNat : Int), .int .u8 (m.toNat : Int), .int .u8 (m.toNat : Int)] : List Value), u.oneCell' = true := one_By [m, m, m]
      have oa := own_same ho (ba.block g hgz1)
      go_wp2_with (first
        | (refine wpList_append_at rfl (.tmp 19) (.tmp 23) 23 rfl 5 i0 _ 1 1 Try.underlying23 i1 i2 i3 i4 rfl (by decide) g k cap ys rfl oa ⟨wr.heap.size, 0, none⟩ 3 3 _ rfl rfl hcl hone (by unfold maxLen; omega) (by omega) (fun g' cp w2 ho2 hg2 hnew => ?_))
        | fail)
      have hgr2 : w.grownBy w2 (some g) := grown_trans (grown_trans hgr ga (.inl rfl)) hg2 (.inl rfl)
      have hgg : g' = g ∨ w.heap.size ≤ g' := by have := hgr.size; omega
      clear hg2 hnew hcl hone rn ga hza ba oa hgr ho hgz1 hgz i1 i2 i3 i4 h
      generalize hN : k + 3 = N at *
      go_wp2
      go_loopw [5] (fun i wr => ∃ k : Nat, k ≤ N ∧ i = .int .i64 k ∧ (∃ xs, wr.ownsRow 0 5 1 (.slice (some ⟨g', 0, none⟩) N cp) N xs) ∧ w.grownBy wr (some g)) (fun i _ => N - (intOf i).toNat)
      case atStart => exact ⟨0, by omega, rfl, ⟨_, ho2⟩, hgr2⟩
      case round =>
        clear ho2 hgr2
        obtain ⟨j, hj, rfl, ⟨zs, ho⟩, hgr⟩ := hrel
        by_cases hjn : j < N
        · obtain ⟨u, c1⟩ := own_cell ho j hjn
          have f1 := World.ownsRow.frozenAt ho j
          go_wp2
          exact ⟨⟨j + 1, by omega, by go_num, ⟨_, (ho.stored j _).1⟩, grown_trans hgr (ho.stored j _).2 hgg⟩, by simp [intOf]; omega⟩
        · obtain rfl : j = N := by omega
          go_wp2
          exact ⟨rfl, _, results30 _ _, rfl, hgr⟩

set_option maxRecDepth 100000 in
set_option maxHeartbeats 2000000 in
theorem spoilL_nil (m : UInt8) (w : World) :
    Calls Try.prog 21 #[.slice none 0 0, .int .u8 (m.toNat : Int)] w fun e w' => e = .returned (.tuple #[]) ∧ w.grownBy w' (some w.heap.size) := by
  obtain ⟨i0, i1, i2, i3, i4⟩ := Try.info5a
  go_enter Try.func21, Try.ntmps21
  go_wp2
  go_loopw [4] (fun i wr => i = .int .i64 0 ∧ w = wr) (fun _ _ => 0)
  case atStart => exact ⟨rfl, rfl⟩
  case round =>
    obtain ⟨rfl, rfl⟩ := hrel
    have ba : Below w.heap.size w (w.alloc (.cells #[.int .u8 (m.toNat : Int), .int .u8 (m.toNat : Int), .int .u8 (m.toNat : Int)] 5)) := (Below.refl _ _).alloc (Nat.le_refl _) _
    have hza : (w.alloc (.cells #[.int .u8 (m.toNat : Int), .int .u8 (m.toNat : Int), .int .u8 (m.toNat : Int)] 5)).heap.size = w.heap.size + 1 := by simp
    have ga := World.grownBy_alloc w (.cells #[.int .u8 (m.toNat : Int), .int .u8 (m.toNat : Int), .int .u8 (m.toNat : Int)] 5) none
    have rn : Row (w.alloc (.cells #[.int .u8 (m.toNat : Int), .int .u8 (m.toNat : Int), .int .u8 (m.toNat : Int)] 5)) w.heap.size 5 #[.int .u8 (m.toNat : Int), .int .u8 (m.toNat : Int), .int .u8 (m.toNat : Int)] := Row.new _ _ _
    have hcl : ∀ j u, ([.int .u8 (m.toNat : Int), .int .u8 (m.toNat : Int), .int .u8 (m.toNat : Int)] : List Value)[j]? = some u → (w.alloc (.cells #[.int .u8 (m.toNat : Int), .int .u8 (m.toNat : Int), .int .u8 (m.toNat : Int)] 5)).cell? ((⟨w.heap.size, 0, none⟩ : Addr).add j) = some u := fun j u hu => by
      rw [Addr.add_mid, Nat.zero_add, rn.cell]
      simpa using hu
    have hone : ∀ u ∈ ([.int .u8 (m.toNat : Int), .int .u8 (m.toNat : Int), .int .u8 (m.toNat : Int)] : List Value), u.oneCell' = true := one_By [m, m, m]
    have on : (w.alloc (.cells #[.int .u8 (m.toNat : Int), .int .u8 (m.toNat : Int), .int .u8 (m.toNat : Int)] 5)).ownsRow w.heap.size 5 1 (.slice none 0 0) 0 [] := ⟨rfl, .inl ⟨rfl, rfl⟩⟩
    go_wp2_with (first
      | (refine wpList_append_own _ rfl (.tmp 19) (.tmp 23) 23 rfl w.heap.size 5 i0 _ 1 1 Try.underlying23 i1 i2 i3 i4 rfl (by decide) (.slice none 0 0) 0 [] rfl on ⟨w.heap.size, 0, none⟩ 3 3 _ rfl rfl hcl hone (by unfold maxLen; omega) (by omega) (by omega) (fun v2 w2 ho2 hg2 hnew => ?_))
      | fail)
    have hgr2 : w.grownBy w2 (some w.heap.size) := ⟨hg2.os, hg2.tape, hg2.output, by have := hg2.size; omega, fun k hk hn => (hg2.block k (by omega) (by simp [Value.ownBlock])).trans (ba.block k hk)⟩
    obtain ⟨g', cp, rfl, hgl, ho3⟩ : ∃ g' cp, v2 = .slice (some ⟨g', 0, none⟩) (0 + 3) cp ∧ w.heap.size ≤ g' ∧ ∃ xs, w2.ownsRow 0 5 1 (.slice (some ⟨g', 0, none⟩) (0 + 3) cp) (0 + 3) xs := by
      rcases ho2.2 with ⟨e, e2⟩ | ⟨g1, c1, cur, e1, e2, e3⟩
      · omega
      · exact ⟨g1, c1, e1, e2, _, ⟨ho2.1, .inr ⟨g1, c1, cur, rfl, Nat.zero_le _, e3⟩⟩⟩
    obtain ⟨xs2, ho2⟩ := ho3
    have hgg : g' = w.heap.size ∨ w.heap.size ≤ g' := .inr hgl
    clear hg2 hnew hcl hone rn ga hza ba on i1 i2 i3 i4
    generalize hN : 0 + 3 = N at *
    go_wp2
    go_loopw [5] (fun i wr => ∃ k : Nat, k ≤ N ∧ i = .int .i64 k ∧ (∃ xs, wr.ownsRow 0 5 1 (.slice (some ⟨g', 0, none⟩) N cp) N xs) ∧ w.grownBy wr (some w.heap.size)) (fun i _ => N - (intOf i).toNat)
    case atStart => exact ⟨0, by omega, rfl, ⟨_, ho2⟩, hgr2⟩
    case round =>
      clear ho2 hgr2
      obtain ⟨j, hj, rfl, ⟨zs, ho⟩, hgr⟩ := hrel
      by_cases hjn : j < N
      · obtain ⟨u, c1⟩ := own_cell ho j hjn
        have f1 := World.ownsRow.frozenAt ho j
        go_wp2
        exact ⟨⟨j + 1, by omega, by go_num, ⟨_, (ho.stored j _).1⟩, grown_trans hgr (ho.stored j _).2 hgg⟩, by simp [intOf]; omega⟩
      · obtain rfl : j = N := by omega
        go_wp2
        exact ⟨rfl, _, results30 _ _, rfl, hgr⟩
theorem spoilL_any {N : Nat} {w : World} {v : Value} {d : List UInt8} (m : UInt8) (h : OwnB N w v d) (hd : d.length ≤ 140737488351232) :
    Calls Try.prog 21 #[v, .int .u8 (m.toNat : Int)] w fun e w' => e = .returned (.tuple #[]) ∧ w.grownBy w' v.ownBlock := by
  rcases h.2 with ⟨rfl, _⟩ | ⟨g, cap, cur, rfl, e2, e3⟩
  · refine (spoilL_nil m w).mono fun e w' hh => ⟨hh.1, ?_⟩
    obtain ⟨_, q⟩ := hh
    exact ⟨q.os, q.tape, q.output, q.size, fun k hk _ => q.block k hk (fun e => by injection e with e; omega)⟩
  · exact spoilL_some g d.length cap (d.map B) m w ⟨h.1, .inr ⟨g, cap, cur, rfl, Nat.zero_le _, e3⟩⟩ hd
end Go.Proofs.Ytpgljhgfoihnjaa
