/- The walk of InflateAhead. -/
import Derived.Test.YtbnghmeeddjaoaaKb
import Derived.Test.YtbnghmeeddjaoaaKc
import Derived.Test.YtbnghmeeddjaoaaHd
namespace Go.Proofs.Ytbnghmeeddjaoaa
open Go.RowKit Go.BigFrame Gt

theorem Buf.row {w : World} {g cap : Nat} {d : List UInt8} (h : Buf w g cap d) : g < w.heap.size ∧ d.length ≤ cap := by
  rcases h.2 with ⟨e, _⟩ | ⟨g1, c1, cur, e1, e2, e3, e4, _⟩
  · cases e
  · cases e1; exact ⟨(Array.getElem?_eq_some_iff.1 e3).1, e4⟩
theorem Buf.same {w w' : World} {g cap : Nat} {d : List UInt8} (h : Buf w g cap d) (e : w'.heap[g]? = w.heap[g]?) : Buf w' g cap d := own_same h e
theorem Buf.bts {w : World} {g cap : Nat} {d : List UInt8} (h : Buf w g cap d) : Bts (· < w.heap.size) w (.slice (some ⟨g, 0, none⟩) d.length cap) d :=
  ⟨_, _, rfl, h.row.2, .inr ⟨g, 0, rfl, h.row.1, fun j u hu => by
    have := World.ownsRow.cells h (g := g) rfl j u hu
    rw [Addr.add_mid] at this
    exact this⟩⟩
theorem spoil_any {N : Nat} (u : Value) (d : List UInt8) (w : World) (ho : OwnB N w u d) (hd : d.length ≤ 100000) :
    Calls Try.prog 17 #[u, .int .u8 7] w fun e w' => e = .returned (.tuple #[]) ∧ w'.os = w.os ∧ w'.tape = w.tape ∧ w'.output = w.output ∧ w.heap.size ≤ w'.heap.size ∧ ∀ k, k < w.heap.size → u.ownBlock ≠ some k → w'.heap[k]? = w.heap[k]? := by
  rcases ho.2 with ⟨rfl, _⟩ | ⟨g, cap, cur, rfl, e2, e3⟩
  · refine (spoil_nil 7 w).mono fun e w' hh => ⟨hh.1, hh.2.os, hh.2.tape, hh.2.output, hh.2.size, fun k hk _ => hh.2.block k hk (fun e => by injection e with e; omega)⟩
  · refine (spoil_some g d.length cap (d.map B) 7 w ⟨ho.1, .inr ⟨g, cap, cur, rfl, Nat.zero_le _, e3⟩⟩ hd).mono fun e w' hh => ⟨hh.1, hh.2.os, hh.2.tape, hh.2.output, hh.2.size, fun k hk hn => hh.2.block k hk (fun e => hn (by rw [e]; rfl))⟩

theorem run_append_none (w : World) (ty : TypeId) (g n cap cc : Nat) (hnc : n ≤ cap) : (Builtin.append_ #[22, 22] ty #[.slice (some ⟨g, 0, none⟩) n cap, .slice none 0 cc]).run Try.prog w = .ok (.slice (some ⟨g, 0, none⟩) n cap) w := by
  obtain ⟨i, h1, _⟩ := Try.info5a
  simp [Builtin.append_, run_underlying Try.underlying22, sizeOf, typeInfo, h1, Builtin.lenOf, Builtin.firstCells, hnc, storeCells]
/-- Bytes that lie anywhere, appended onto a row of one's own. -/
theorem wpList_append_bts {ops : Array Oper} {rest : List Oper} {o : Oper} {a : Act} {w : World} {Q : Exit → Act → World → Prop} (hgd : o.guard = none) (s x : Operand)
    (ho : o.op = .call { callee := .builtin .append, args := #[s, x], argTypes := #[22, 22] }) (g cap : Nat) (d : List UInt8) (hs : a.eval s = .slice (some ⟨g, 0, none⟩) d.length cap) (hown : Buf w g cap d)
    (S : Nat → Prop) (l : List UInt8) (v : Value) (hx : a.eval x = v) (hv : Bts S w v l) (hmax : d.length + l.length ≤ 140737488355328)
    (h : ∀ g' cap' w', Buf w' g' cap' (d ++ l) → w.grownBy w' (some g) → (g' = g ∨ w.heap.size ≤ g') → wpList Try.prog ops Q rest (a.put o.dst (.slice (some ⟨g', 0, none⟩) (d.length + l.length) cap')) w') : wpList Try.prog ops Q (o :: rest) a w := by
  obtain ⟨av, c, rfl, hc, h3⟩ := hv
  cases av with
  | none =>
    obtain rfl : l = [] := by
      rcases h3 with h3 | ⟨_, _, h3, _⟩
      · exact h3
      · cases h3
    have hr := run_append_none w o.type g d.length cap c hown.row.2
    refine wpList_plain hgd fun K hK => ?_
    unfold Oper.wp execOp
    have hx' : a.eval x = .slice none 0 c := hx
    simp only [ho, resolve, invoke, builtin, Sem.run_bind, Sem.run_pure, Result.andThen_ok, List.map_toArray, List.map_cons, List.map_nil, hs, hx', hr]
    exact hK _ _ (h g cap w (by rw [List.append_nil]; exact hown) ⟨rfl, rfl, rfl, Nat.le_refl _, fun _ _ _ => rfl⟩ (.inl rfl))
  | some ad =>
    have hcl : ∀ j u, (l.map B)[j]? = some u → w.cell? (ad.add j) = some u := by
      intro j u hu
      rcases h3 with rfl | ⟨b, o, h4, h5, h6⟩
      · simp at hu
      · cases h4
        rw [Addr.add_mid]
        exact h6 j u hu
    obtain ⟨i0, i1, i2, i3, i4⟩ := Try.info5a
    refine wpList_append_at hgd s x 22 ho 5 i0 _ 1 1 Try.underlying22 i1 i2 i3 i4 rfl (by decide) g d.length cap (d.map B) hs hown ad l.length c (l.map B) hx (by rw [List.length_map, Nat.mul_one]) hcl (one_By l) (by unfold maxLen; omega) (by omega) (fun g' cp w' ho hg hnew => ?_)
    exact h g' cp w' (by unfold Buf; rw [List.length_append, List.map_append]; exact ho) hg hnew

set_option maxRecDepth 100000 in
set_option maxHeartbeats 4000000 in
theorem ahead_any (vb vc : Value) (b c : List UInt8) (n : Nat) (hb : b.length ≤ 1100000) (hc : c.length ≤ 1100000) (hn : n ≤ 65535) (w : World) (hB : Bts (· < w.heap.size) w vb b) (hC : Bts (· < w.heap.size) w vc c) :
    Calls Try.prog 5 #[vb, vc, .int .u16 (n : Int)] w fun e w' => e = .returned (.bool true) ∧ Below w.heap.size w w' := by
  have cp1 := copy_any _ vb b w hB (fun _ h => h) (by omega)
  have HB := Box'.mk hB
  have HC := Box'.mk hC
  have CP : Box' (∀ w', Below w.heap.size w w' → Calls Try.prog 16 #[vb] w' fun e w'' => ∃ g cap, e = .returned (.slice (some ⟨g, 0, none⟩) b.length cap) ∧ Buf w'' g cap b ∧ w'.heap.size ≤ g ∧ Below w'.heap.size w' w'') := ⟨fun w' hbl => copy_any _ vb b w' (hB.below hbl fun _ h => h) (fun k h => Nat.lt_of_lt_of_le h hbl.size) (by omega)⟩
  have IF : Box' (∀ (w' : World) (v : Value) (l : List UInt8) (m : Int), l.length ≤ 140737488355328 → Bts (· < w'.heap.size) w' v l → Calls Try.prog 6 #[v, .int .i64 m] w' (IEnds w' (infR l m))) := ⟨fun w' v l m hl h => inflate_any v l m hl w' h⟩
  have AH := Box'.mk (inf_ahead b)
  have AB := Box'.mk (inf_bad b n)
  obtain ⟨ab, cb, rfl, _⟩ := hB
  obtain ⟨ac, cc, rfl, hcc, _⟩ := hC
  go_enter Try.func5, Try.ntmps5
  go_wp2_with fail
  refine cp1.mono ?_
  clear cp1
  rintro e w1 ⟨g1, cap1, rfl, bf1, hg1, b1⟩
  have if1 := IF.out w1 _ b n (by omega) bf1.bts
  have BF1 := Box'.mk bf1
  have B1 := Box'.mk b1
  have HG1 := Box'.mk hg1
  clear bf1 b1 hg1
  generalize hR : infR b (n : Int) = R at *
  have HRR := Box'.mk hR
  obtain ⟨o, us, er⟩ := R
  simp only at AB
  go_wp2_with fail
  refine if1.mono ?_
  clear if1
  rintro e w2 ⟨u, rfl, ou, b2⟩
  simp only at ou
  have OU := Box'.mk ou
  have B2 := Box'.mk b2
  have BF2 := Box'.mk (BF1.out.same (b2.block g1 BF1.out.row.1))
  have BL2 := Box'.mk (B1.out.trans (b2.mono B1.out.size))
  have S12 : Box' (w1.heap.size ≤ w2.heap.size) := ⟨b2.size⟩
  have UB : Box' (∀ k, u.ownBlock = some k → w1.heap.size ≤ k ∧ k < w2.heap.size) := ⟨fun k hk => by obtain ⟨h1, _, r⟩ := OU.out.lt k hk; exact ⟨h1, r.lt⟩⟩
  clear ou b2
  by_cases her : er = 0
  case neg =>
    obtain ⟨ho, hu⟩ := AB.out (by exact her)
    have ho : o = [] := ho
    have hu : us = 0 := hu
    subst ho hu
    have her' : (er != 0) = true := by simpa using her
    obtain ⟨au, cu, rfl⟩ := OU.out.slice
    have an := anchored_any w2
    clear AB AH hR HRR her IF CP
    go_wp2_with fail
    refine an.mono ?_
    clear an
    rintro e w3 ⟨rfl, b3⟩
    have sm := refSame_any _ _ _ _ _ _ w3 (HB.out.below (BL2.out.trans (b3.mono BL2.out.size)) fun _ h => h) (BF2.out.same (b3.block g1 BF2.out.row.1)).bts
    rw [decide_eq_true rfl] at sm
    have B3 := Box'.mk (BL2.out.trans (b3.mono BL2.out.size))
    clear b3
    go_wp2_with fail
    refine sm.mono ?_
    clear sm
    rintro e w4 ⟨rfl, rfl⟩
    go_wp2_with fail
    go_ret
    exact ⟨rfl, B3.out⟩
  case pos =>
    subst her
    have a1 := AH.out c n n (Nat.le_refl _) (by omega) (by rw [HRR.out])
    have a2 := AH.out [] n 65536 (by omega) (by omega) (by rw [HRR.out])
    rw [List.append_nil] at a2
    rw [HRR.out] at a1 a2
    have A1 := Box'.mk a1
    have A2 := Box'.mk a2
    have cp2 := CP.out w2 BL2.out
    clear AB AH hR a1 a2 CP
    go_wp2_with fail
    refine cp2.mono ?_
    clear cp2
    rintro e w3 ⟨g2, cap2, rfl, bf3, hg2, b3⟩
    have BL3 := Box'.mk (BL2.out.trans (b3.mono BL2.out.size))
    have BFc3 := Box'.mk (BF2.out.same (b3.block g1 BF2.out.row.1))
    have OU3 := Box'.mk (OU.out.below b3)
    have HCC : Bts (· < w.heap.size) w3 (.slice ac c.length cc) c := HC.out.below BL3.out fun _ h => h
    have hmx : b.length + c.length ≤ 140737488355328 := by omega
    have HG2 : Box' (w2.heap.size ≤ g2) := ⟨hg2⟩
    have BF3 := Box'.mk bf3
    have B3 := Box'.mk b3
    clear b3 hg2 BF2 OU BL2 B2
    go_wp2_with (refine wpList_append_bts rfl (.tmp 49) (.tmp 50) rfl g2 cap2 b rfl bf3 _ c _ rfl HCC hmx ?_; intro g4 cap4 w4 bf4 gr4 hg4; have BF4 := Box'.mk bf4; have GR4 := Box'.mk gr4; have if2 := IF.out w4 _ (b ++ c) n (by rw [List.length_append]; omega) bf4.bts; rw [A1.out.1, List.length_append] at if2; clear bf4 gr4 hg4 HCC bf3)
    refine if2.mono ?_
    clear if2
    rintro e w5 ⟨u2, rfl, ou2, b5⟩
    simp only at ou2
    have S34 : Box' (w3.heap.size ≤ w4.heap.size) := ⟨GR4.out.size⟩
    have N12 : Box' (∀ k, k < w2.heap.size → w4.heap[k]? = w3.heap[k]?) := ⟨fun k hk => GR4.out.block k (Nat.lt_of_lt_of_le hk B3.out.size) (fun e => by injection e with e; have := HG2.out; omega)⟩
    have HG12 : Box' (g1 < w2.heap.size) := ⟨Nat.lt_of_lt_of_le BF1.out.row.1 S12.out⟩
    have HWG : Box' (w.heap.size ≤ w2.heap.size) := ⟨by have := HG12.out; have := HG1.out; omega⟩
    have BF5 := Box'.mk ((BFc3.out.same (N12.out g1 HG12.out)).same (b5.block g1 (by have := HG12.out; have := B3.out.size; have := S34.out; omega)))
    have OU5 := Box'.mk ((OU3.out.same fun k hk => N12.out k (UB.out k hk).2).below b5)
    have BL4 : Below w.heap.size w w4 := BL3.out.trans ⟨GR4.out.os, GR4.out.tape, GR4.out.output, GR4.out.size, fun k hk => N12.out k (by have := HWG.out; omega)⟩
    have BL5 := Box'.mk (BL4.trans (b5.mono BL4.size))
    have OU2 := Box'.mk ou2
    have S25 : Box' (w2.heap.size ≤ w4.heap.size ∧ w4.heap.size ≤ w5.heap.size) := ⟨by have := B3.out.size; have := S34.out; have := b5.size; omega⟩
    have if3 := IF.out w5 _ b 65536 (by omega) BF5.out.bts
    rw [show infR b 65536 = (o, us, 0) from A2.out.1] at if3
    clear ou2 b5 BL4 N12 GR4 BF4 OU3 BFc3 S34 B3 BL3 BF3 A2 HG2
    go_wp2_with fail
    refine if3.mono ?_
    clear if3
    rintro e w6 ⟨u3, rfl, ou3, b6⟩
    simp only at ou3
    have OU3 := Box'.mk ou3
    have OU6 := Box'.mk (OU5.out.below b6)
    have OU26 := Box'.mk (OU2.out.below b6)
    have BF6 := Box'.mk (BF5.out.same (b6.block g1 BF5.out.row.1))
    have BL6 := Box'.mk (BL5.out.trans (b6.mono BL5.out.size))
    have S56 : Box' (w5.heap.size ≤ w6.heap.size) := ⟨b6.size⟩
    have hol : o.length ≤ 100000 := by have h : o.length ≤ n := A1.out.2.2; omega
    have sp := spoil_any u o w6 OU6.out hol
    clear ou3 b6 OU5 OU2 BF5 BL5 hol
    go_wp2_with fail
    refine sp.mono ?_
    clear sp
    rintro e w7 ⟨rfl, p1, p2, p3, p4, p5⟩
    have BF7 := Box'.mk (BF6.out.same (p5 g1 BF6.out.row.1 (fun e => by have := (UB.out g1 e).1; have := BF1.out.row.1; omega)))
    have OU27 := Box'.mk (OU26.out.same fun k hk => by
      obtain ⟨h1, _, r⟩ := OU26.out.lt k hk
      exact p5 k r.lt (fun e => by have := (UB.out k e).2; have := S25.out; omega))
    have OU37 := Box'.mk (OU3.out.same fun k hk => by
      obtain ⟨h1, _, r⟩ := OU3.out.lt k hk
      exact p5 k r.lt (fun e => by have := (UB.out k e).2; have := S25.out; omega))
    have BL7 : Box' (Below w.heap.size w w7) := ⟨BL6.out.trans ⟨p1, p2, p3, p4, fun k hk => p5 k (by have := BL6.out.size; omega) (fun e => by have := (UB.out k e).1; have := B1.out.size; omega)⟩⟩
    have if4 := IF.out w7 _ b n (by omega) BF7.out.bts
    rw [HRR.out] at if4
    clear p1 p2 p3 p4 p5 OU26 OU3 BF6 BL6 OU6
    go_wp2_with fail
    refine if4.mono ?_
    clear if4
    rintro e w8 ⟨u4, rfl, ou4, b8⟩
    simp only at ou4
    have OU48 := Box'.mk ou4
    have OU28 := Box'.mk (OU27.out.below b8)
    have OU38 := Box'.mk (OU37.out.below b8)
    have BF8 := Box'.mk (BF7.out.same (b8.block g1 BF7.out.row.1))
    have BL8 := Box'.mk (BL7.out.trans (b8.mono BL7.out.size))
    have an := anchored_any w8
    clear ou4 b8 OU27 OU37 BF7 BL7 IF
    go_wp2_with fail
    refine an.mono ?_
    clear an
    rintro e w9 ⟨rfl, b9⟩
    have o2 := OU28.out.below b9
    have s1 := refSame_any _ _ _ _ _ _ w9 o2.bts (OU38.out.below b9).bts
    have s2 := refSame_any _ _ _ _ _ _ w9 o2.bts (OU48.out.below b9).bts
    have BL9 := Box'.mk (BL8.out.trans (b9.mono BL8.out.size))
    have s3 := refSame_any _ _ _ _ _ _ w9 (HB.out.below BL9.out fun _ h => h) (BF8.out.same (b9.block g1 BF8.out.row.1)).bts
    rw [decide_eq_true rfl] at s1 s2 s3
    obtain ⟨a2, c2, rfl⟩ := o2.slice
    have hus : us ≤ b.length := A1.out.2.1
    have hol : o.length ≤ n := A1.out.2.2
    have S2 := Box'.mk s2
    have S3 := Box'.mk s3
    clear b9 OU28 OU38 OU48 BF8 BL8 s2 s3 o2 A1
    go_wp2_with fail
    refine s1.mono ?_
    clear s1
    rintro e w10 ⟨rfl, rfl⟩
    have s2 := S2.out
    go_wp2_with fail
    refine s2.mono ?_
    clear s2 S2
    rintro e w10 ⟨rfl, rfl⟩
    have s3 := S3.out
    go_wp2_with fail
    refine s3.mono ?_
    clear s3 S3
    rintro e w10 ⟨rfl, rfl⟩
    go_wp2_with fail
    go_ret
    exact ⟨rfl, BL9.out⟩
end Go.Proofs.Ytbnghmeeddjaoaa
