/- The walk of Symbol. -/
import Derived.Test.YtcppfoolhkcfaaaK
import Derived.Test.YtcppfoolhkcfaaaD
namespace Go.Proofs.Ytcppfoolhkcfaaa
open Go.RowKit Go.BigFrame

theorem or_two (c v : Nat) (hc : c < 32768) (hv : v < 2) : bits .or .u64 ((c : Int) * 2) (v : Int) = ((2 * c + v : Nat) : Int) := by
  have e1 : (c : Int) * 2 = ((c * 2 : Nat) : Int) := by simp
  rw [e1, u64_or_nat _ _ (by omega) (by omega)]
  have h3 := Nat.shiftLeft_add_eq_or_of_lt (i := 1) (show v < 2 ^ 1 by omega) c
  rw [Nat.shiftLeft_eq] at h3
  have h4 : c * 2 = c * 2 ^ 1 := rfl
  rw [h4, ← h3, ← h4, Nat.mul_comm]

theorem look_hit {l : List Int} (hA : l.all Gf.lenB = true) (hW : Gf.wgt l ≤ 32768) {n c i : Nat} (hh : Gf.hit l n c = some i) {w : World} {g : Nat} (m : Mp w g (ents l l.length)) :
    (Instr.lookup 64 (.map (some g)) (ky c n) true).run Try.prog w = .ok (.tuple #[.int .i64 (i : Int), .bool true]) w := by
  obtain ⟨hi, h1, h0, h2⟩ := Gf.some_hit hh
  subst h1 h2
  obtain ⟨lk, hkey⟩ := ky_key (Gf.cod l i) (Gf.ln l i) (by have := cod_small l hA hW i hi; omega) (by have := (Gf.ln_le l hA i).1; omega)
  rcases run_lookup_mp m (ents_keys l hA hW _ (Nat.le_refl _)) hkey with ⟨_, hno⟩ | ⟨v, hr, hm⟩
  · exact absurd rfl (hno _ (mem_ents hi h0))
  · obtain ⟨j, hj, j0, he⟩ := ents_mem hm
    simp only [Prod.mk.injEq] at he
    obtain ⟨e1, e2⟩ := ky_inj he.1
    have := Gf.cod_inj l hA i j hi hj h0 e2 e1
    subst this
    rw [hr, he.2]
theorem look_none {l : List Int} (hA : l.all Gf.lenB = true) (hW : Gf.wgt l ≤ 32768) {n c : Nat} (hc : c ≤ 65536) (hn : n ≤ 16) (hh : Gf.hit l n c = none) {w : World} {g : Nat} (m : Mp w g (ents l l.length)) :
    (Instr.lookup 64 (.map (some g)) (ky c n) true).run Try.prog w = .ok (.tuple #[.int .i64 0, .bool false]) w := by
  obtain ⟨lk, hkey⟩ := ky_key c n hc (by omega)
  rcases run_lookup_mp m (ents_keys l hA hW _ (Nat.le_refl _)) hkey with ⟨hr, _⟩ | ⟨v, hr, hm⟩
  · exact hr
  · obtain ⟨j, hj, j0, he⟩ := ents_mem hm
    simp only [Prod.mk.injEq] at he
    obtain ⟨e1, e2⟩ := ky_inj he.1
    have := Gf.hit_none_iff hh j hj
    exact absurd this (by unfold Gf.hitB; simp; exact ⟨e2.symm, by omega, e1.symm⟩)

theorem bit_short {b : List UInt8} {p n : Nat} (h : 8 * (b.length : Int) < ((p + n : Nat) : Int) + 1) : Gf.rdE b.length ((p + n : Nat) : Int) 1 = 7 ∧ Gf.rdV b ((p + n : Nat) : Int) 1 = 0 ∧ Gf.bitAt b p n = none := by
  have e : Gf.rdE b.length ((p + n : Nat) : Int) 1 = 7 := by unfold Gf.rdE; rw [if_neg (by omega), if_pos h]
  refine ⟨e, ?_, ?_⟩
  · unfold Gf.rdV; rw [if_neg (by rw [e]; decide)]
  · unfold Gf.bitAt; rw [if_neg (by omega)]
theorem bit_there {b : List UInt8} {p n : Nat} (h : ¬ 8 * (b.length : Int) < ((p + n : Nat) : Int) + 1) : ∃ v, v < 2 ∧ Gf.rdE b.length ((p + n : Nat) : Int) 1 = 0 ∧ Gf.rdV b ((p + n : Nat) : Int) 1 = v ∧ Gf.bitAt b p n = some v := by
  have e : Gf.rdE b.length ((p + n : Nat) : Int) 1 = 0 := by unfold Gf.rdE; rw [if_neg (by omega), if_neg h]
  refine ⟨Gf.num b / 2 ^ (p + n) % 2, Nat.mod_lt _ (by decide), e, ?_, ?_⟩
  · unfold Gf.rdV; rw [if_pos e, Int.toNat_natCast]; rfl
  · unfold Gf.bitAt; rw [if_pos (by omega)]

set_option maxRecDepth 100000 in
set_option maxHeartbeats 4000000 in
theorem symbol_good (v vb : Value) (l : List Int) (b : List UInt8) (p : Nat) (hl : l.length ≤ 17592186044416) (hb : b.length ≤ 140737488355328) (hp : p ≤ 9223372036854775807) (h0 : Gf.chkE l = 0) (w : World) (h : Ints w.heap.size w v l) (hB : Bts (· < w.heap.size) w vb b) (R : Nat × Nat × Int) (hR : Gf.symF l (Gf.bitAt b p) 17 0 0 = R) :
    Calls Try.prog 12 #[v, vb, .int .i64 (p : Int)] w fun e w' => e = .returned (.tuple #[.int .i64 (R.1 : Int), .int .i64 (R.2.1 : Int), .int .i64 R.2.2]) ∧ Below w.heap.size w w' := by
  obtain ⟨hA, hW, h512⟩ := good_of h0
  have hck := check_any v l hl w h
  rw [h0] at hck
  have hso := symbolsOf_any v l hA hW h512 w h
  have hwe : ∀ {W : World}, Below w.heap.size w W → _ := fun {W} hb' => weigh_any v l hA hl W (h.on hb')
  have HWE := Box'.mk @hwe
  have hrd : ∀ {W : World} (q : Nat), Below w.heap.size w W → ((q : Nat) : Int) ≤ 9223372036854775807 → _ := fun {W} q hb' hq => read_any _ vb b (q : Int) 1 hb W (hB.below hb' fun _ h => h) hq
  have HRD := Box'.mk @hrd
  have HL : Box' (∀ n c, n ≤ 15 → Gf.NP l n c → (decide (c * 2 ^ (15 - n) < Gf.wgt l) = Gf.live l n c l.length)) := ⟨fun n c hn hnp => by
    have := Gf.may_live hA hnp hn
    cases hlv : Gf.live l n c l.length with
    | true => exact decide_eq_true (this.2 hlv)
    | false => exact decide_eq_false fun hh => by rw [this.1 hh] at hlv; cases hlv⟩
  have LL : Box' (∀ n c, Gf.live l n c l.length = true → n < 15) := ⟨fun n c h => Gf.live_lt hA h⟩
  have LH : Box' (∀ n c i (W : World) g, Gf.hit l n c = some i → Mp W g (ents l l.length) → (Instr.lookup 64 (.map (some g)) (ky c n) true).run Try.prog W = .ok (.tuple #[.int .i64 (i : Int), .bool true]) W) := ⟨fun n c i W g hh m => look_hit hA hW hh m⟩
  have LO : Box' (∀ n c (W : World) g, c ≤ 65536 → n ≤ 16 → Gf.hit l n c = none → Mp W g (ents l l.length) → (Instr.lookup 64 (.map (some g)) (ky c n) true).run Try.prog W = .ok (.tuple #[.int .i64 0, .bool false]) W) := ⟨fun n c W g hc hn hh m => look_none hA hW hc hn hh m⟩
  have NP0 := Box'.mk (Gf.np_zero l)
  have HZ := Box'.mk (Gf.hit_zero l 0)
  have HR := Box'.mk hR
  obtain ⟨a, c, rfl, hc, h3⟩ := h
  obtain ⟨ab, cb, rfl, hcb, hb3⟩ := hB
  have hWl := hW
  generalize hents : ents l l.length = KV at *
  generalize hwg : Gf.wgt l = WG at *
  clear h3 hb3 hA hW h512 hwe hrd hents hwg hR h0
  go_enter Try.func12, Try.ntmps12
  go_wp2_with (go_at_call 22; refine hck.mono ?_; rintro e w' ⟨rfl, hw'⟩; rw [hw'])
  refine hso.mono ?_
  rintro e w1 ⟨g, rfl, hg, m1, b1⟩
  have hwe := HWE.out b1
  clear HWE hso hck
  go_wp2_with (go_at_call 28; refine hwe.mono ?_; rintro e w' ⟨rfl, hw'⟩; rw [hw'])
  clear hwe
  have hg1 : g < w1.heap.size := m1.lt
  have hz1 := b1.size
  go_loopw [13] (fun _ wr => ∃ n c : Nat, n ≤ 15 ∧ c < 2 ^ n ∧ p + n ≤ 9223372036854775807 ∧ Row wr w1.heap.size 51 #[.int .u64 (c : Int), .int .i64 (n : Int)] ∧ Mp wr g KV ∧ Below w.heap.size w wr ∧ Box' (Gf.NP l n c) ∧ Box' (Gf.hit l n c = none) ∧ Box' (R = Gf.symF l (Gf.bitAt b p) (17 - n) n c)) (fun _ wr => 16 - (intOf ((wr.cell? ⟨w1.heap.size, 1, none⟩).getD undef)).toNat)
  case atStart => exact ⟨0, 0, by omega, by decide, by omega, Row.new _ _ _, m1.alloc _, b1.alloc hz1 _, NP0, HZ, ⟨HR.out.symm⟩⟩
  case round =>
    clear m1 b1 HR NP0 HZ
    obtain ⟨n, c', hn, hc', hpn, r1, m1, hbl, HNP, HH, HR⟩ := hrel
    have hc15 : c' < 32768 := Nat.lt_of_lt_of_le hc' (show 2 ^ n ≤ 2 ^ 15 from Nat.pow_le_pow_right (by decide) hn)
    have hmb := fun w => mayBegin_any c' n WG hn hc15 hWl w
    rw [HL.out n c' hn HNP.out] at hmb
    have d0 : wr.cell? ⟨w1.heap.size, 0, none⟩ = some (.int .u64 (c' : Int)) := by rw [r1.cell]; rfl
    have d1 : wr.cell? ⟨w1.heap.size, 1, none⟩ = some (.int .i64 (n : Int)) := by rw [r1.cell]; rfl
    have DR := Box'.mk d1
    have hzr := hbl.size
    have hB1 := r1.lt
    cases hlv : Gf.live l n c' l.length with
    | false =>
      rw [hlv] at hmb
      have e1 : R = (0, 0, 8) := by
        rw [HR.out, show 17 - n = (16 - n) + 1 by omega]
        exact Gf.symF_dead HH.out hlv
      subst e1
      clear HL LL LH LO HRD HNP HH HR hlv
      go_wp2_with fail
      refine (hmb _).mono ?_
      rintro e w2 ⟨rfl, b2⟩
      have bl2 := hbl.trans (b2.mono hzr)
      clear hmb b2 hbl
      go_wp2_with fail
      go_ret3
      exact ⟨rfl, bl2⟩
    | true =>
      rw [hlv] at hmb
      have hn15 := LL.out n c' hlv
      go_wp2_with fail
      refine (hmb _).mono ?_
      rintro e w2 ⟨rfl, b2⟩
      have bl2 := hbl.trans (b2.mono hzr)
      have r2 := r1.below b2 hB1
      have m2 := m1.below b2 (by have := m1.lt; omega)
      have d0 : w2.cell? ⟨w1.heap.size, 0, none⟩ = some (.int .u64 (c' : Int)) := by rw [r2.cell]; rfl
      have d1 : w2.cell? ⟨w1.heap.size, 1, none⟩ = some (.int .i64 (n : Int)) := by rw [r2.cell]; rfl
      have f0 := r2.frozen 0
      have f1 := r2.frozen 1
      have hrd := HRD.out (p + n) bl2 (by omega)
      clear hmb b2 hbl r1 m1 HRD HL LL hzr hB1
      by_cases hsh : 8 * (b.length : Int) < ((p + n : Nat) : Int) + 1
      · obtain ⟨e1, e2, e3⟩ := bit_short hsh
        rw [e1, e2] at hrd
        have e4 : R = (0, 0, 7) := by
          rw [HR.out, show 17 - n = (16 - n) + 1 by omega]
          exact Gf.symF_short HH.out hlv e3
        subst e4
        have hrd' : Calls Try.prog 31 #[.slice ab b.length cb, .int .i64 ((p : Int) + (n : Int)), .int .i64 1] w2 _ := hrd
        clear LH LO HNP HH HR hlv e1 e2 e3 hrd
        go_wp2_with (go_at_call 31; refine hrd'.mono ?_; rintro e w' ⟨rfl, hw'⟩; rw [hw'])
        go_ret3
        exact ⟨rfl, bl2⟩
      · obtain ⟨v, hv, e1, e2, e3⟩ := bit_there hsh
        rw [e1, e2] at hrd
        have e4 : R = Gf.symF l (Gf.bitAt b p) (17 - (n + 1)) (n + 1) (2 * c' + v) := by
          rw [HR.out, show 17 - n = (17 - (n + 1)) + 1 by omega]
          exact Gf.symF_on HH.out hlv e3
        have e4 := Box'.mk e4
        have hrd' : Calls Try.prog 31 #[.slice ab b.length cb, .int .i64 ((p : Int) + (n : Int)), .int .i64 1] w2 _ := hrd
        have E := Box'.mk (or_two c' v hc15 hv)
        have hc2 : 2 * c' + v < 2 ^ (n + 1) := by rw [Nat.pow_succ]; omega
        have hpn2 : p + (n + 1) ≤ 9223372036854775807 := by omega
        have hgw : g ≠ w1.heap.size := by omega
        have bl3 : Below w.heap.size w ((w2.setCell ⟨w1.heap.size, 0, none⟩ (.int .u64 (bits .or .u64 ((c' : Int) * 2) (v : Int)))).setCell ⟨w1.heap.size, 1, none⟩ (.int .i64 ((n : Int) + 1))) := (bl2.setCell hz1 _).setCell hz1 _
        have m3 : Mp ((w2.setCell ⟨w1.heap.size, 0, none⟩ (.int .u64 (bits .or .u64 ((c' : Int) * 2) (v : Int)))).setCell ⟨w1.heap.size, 1, none⟩ (.int .i64 ((n : Int) + 1))) g KV := (m2.setCell _ _ hgw).setCell _ _ hgw
        have r3 : Row ((w2.setCell ⟨w1.heap.size, 0, none⟩ (.int .u64 (bits .or .u64 ((c' : Int) * 2) (v : Int)))).setCell ⟨w1.heap.size, 1, none⟩ (.int .i64 ((n : Int) + 1))) w1.heap.size 51 #[.int .u64 (bits .or .u64 ((c' : Int) * 2) (v : Int)), .int .i64 ((n : Int) + 1)] := (r2.setCell 0 _).setCell 1 _
        cases hh : Gf.hit l (n + 1) (2 * c' + v) with
        | some i =>
          have hlk := LH.out (n + 1) (2 * c' + v) i _ g hh m3
          unfold ky at hlk
          rw [← E.out, show ((n + 1 : Nat) : Int) = (n : Int) + 1 by omega] at hlk
          have e5 : R = (i, n + 1, 0) := by
            rw [e4.out, show 17 - (n + 1) = (15 - n) + 1 by omega]
            exact Gf.symF_hit hh
          subst e5
          clear LH LO HNP HH HR hlv e1 e2 e3 hrd e4 E m2 r2 hh m3 hc2
          generalize hX : bits .or .u64 ((c' : Int) * 2) (v : Int) = X at *
          go_wp2_with (first | (go_at_call 31; refine hrd'.mono ?_; rintro e w' ⟨rfl, hw'⟩; rw [hw']) | (refine wpList_lookup rfl _ _ rfl _ ?_ ?_; exact hlk) | fail)
          have d5 : ((w2.setCell ⟨w1.heap.size, 0, none⟩ (.int .u64 X)).setCell ⟨w1.heap.size, 1, none⟩ (.int .i64 ((n : Int) + 1))).cell? ⟨w1.heap.size, 1, none⟩ = some (.int .i64 ((n : Int) + 1)) := by rw [r3.cell]; rfl
          generalize (w2.setCell ⟨w1.heap.size, 0, none⟩ (.int .u64 X)).setCell ⟨w1.heap.size, 1, none⟩ (.int .i64 ((n : Int) + 1)) = w5 at *
          clear d0 d1 f0 f1 bl2 hrd' hlk hX r3
          go_quiet (fail)
          go_wp2_with fail
          go_ret3
          exact ⟨rfl, Below.drewN bl3 nq⟩
        | none =>
          have hlk := LO.out (n + 1) (2 * c' + v) _ g (by omega) (by omega) hh m3
          have NP2 := Box'.mk (Gf.np_step HNP.out hv hh)
          have HH2 := Box'.mk hh
          unfold ky at hlk
          rw [← E.out, show ((n + 1 : Nat) : Int) = (n : Int) + 1 by omega] at hlk
          clear LH LO HNP HH HR hlv e1 e2 e3 hrd m2 r2 hh
          generalize hX : bits .or .u64 ((c' : Int) * 2) (v : Int) = X at *
          go_wp2_with (first | (go_at_call 31; refine hrd'.mono ?_; rintro e w' ⟨rfl, hw'⟩; rw [hw']) | (refine wpList_lookup rfl _ _ rfl _ ?_ ?_; exact hlk) | fail)
          have d5 : ((w2.setCell ⟨w1.heap.size, 0, none⟩ (.int .u64 X)).setCell ⟨w1.heap.size, 1, none⟩ (.int .i64 ((n : Int) + 1))).cell? ⟨w1.heap.size, 1, none⟩ = some (.int .i64 ((n : Int) + 1)) := by rw [r3.cell]; rfl
          refine ⟨⟨n + 1, 2 * c' + v, by omega, hc2, hpn2, ?_, m3, bl3, NP2, HH2, e4⟩, ?_⟩
          · rw [← E.out]
            exact r3
          · rw [d5, DR.out]
            simp [intOf]; omega

/-- What Symbol answers, as a value. -/
def sv (R : Nat × Nat × Int) : Value := .tuple #[.int .i64 (R.1 : Int), .int .i64 (R.2.1 : Int), .int .i64 R.2.2]
set_option maxHeartbeats 1000000 in
theorem symbol_any (v vb : Value) (l : List Int) (b : List UInt8) (at' : Int) (hl : l.length ≤ 17592186044416) (hb : b.length ≤ 140737488355328) (hp : at' ≤ 9223372036854775807) (w : World) (h : Ints w.heap.size w v l) (hB : Bts (· < w.heap.size) w vb b) :
    Calls Try.prog 12 #[v, vb, .int .i64 at'] w fun e w' => e = .returned (sv (Gf.symR l b at')) ∧ Below w.heap.size w w' := by
  by_cases h1 : at' < 0
  · rw [show Gf.symR l b at' = (0, 0, 2) from if_pos h1]
    obtain ⟨a, c, rfl, hc, h3⟩ := h
    obtain ⟨ab, cb, rfl, hcb, hb3⟩ := hB
    clear h3 hb3
    go_enter Try.func12, Try.ntmps12
    go_wp2_with fail
    go_ret3
    exact ⟨rfl, Below.refl _ _⟩
  · obtain ⟨p, rfl⟩ : ∃ p : Nat, at' = (p : Int) := ⟨at'.toNat, by omega⟩
    by_cases h0 : Gf.chkE l = 0
    · have hR : Gf.symR l b (p : Int) = Gf.symF l (Gf.bitAt b p) 17 0 0 := by unfold Gf.symR; rw [if_neg h1, if_pos h0, Int.toNat_natCast]
      rw [hR]
      exact symbol_good v vb l b p hl hb (by omega) h0 w h hB _ rfl
    · rw [show Gf.symR l b (p : Int) = (0, 0, Gf.chkE l) by unfold Gf.symR; rw [if_neg h1, if_neg h0]]
      have hck := check_any v l hl w h
      have i0 : (Gf.chkE l == 0) = false := by rw [beq_eq_false_iff_ne]; exact h0
      obtain ⟨a, c, rfl, hc, h3⟩ := h
      obtain ⟨ab, cb, rfl, hcb, hb3⟩ := hB
      generalize Gf.chkE l = E at *
      clear h3 hb3 h0
      go_enter Try.func12, Try.ntmps12
      go_wp2_with (go_at_call 22; refine hck.mono ?_; rintro e w' ⟨rfl, hw'⟩; rw [hw'])
      go_ret3
      exact ⟨rfl, Below.refl _ _⟩
end Go.Proofs.Ytcppfoolhkcfaaa
