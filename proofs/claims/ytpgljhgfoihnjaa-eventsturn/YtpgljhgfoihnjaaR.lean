/- What stands while the program reads; the walks of fail, of the closure that reads a number, of piece, bytes and side. -/
import Derived.Test.YtpgljhgfoihnjaaO
import Derived.Test.YtpgljhgfoihnjaaOz
import Derived.BigRegion
import Derived.Test.YtpgljhgfoihnjaaU
import Derived.Test.YtpgljhgfoihnjaaE
import Derived.Test.YtpgljhgfoihnjaaFa
import Derived.Test.YtpgljhgfoihnjaaH
import Derived.Test.YtpgljhgfoihnjaaN
namespace Go.Proofs.Ytpgljhgfoihnjaa
open Go.RowKit Go.BigFrame
set_option maxRecDepth 100000
set_option linter.unusedSimpArgs false

/-- The way out with a fault. -/
def flt (e : Int) : Ending := .panicked [{ v := .iface 79 (.agg #[.int .i64 e]), recovered := false }]
theorem fail_any (e0 : Int) (w : World) : Calls Try.prog 54 #[.int .i64 e0] w fun e w' => e = flt e0 ∧ w' = w := by
  go_enter Try.func54, Try.ntmps54
  go_wp2_with fail
  exact ⟨rfl, rfl, rfl⟩
/-- Only the block g has been turned, and memory made. -/
def Gb (g : Nat) (w w' : World) : Prop := w.grownBy w' (some g)
theorem Gb.refl (g : Nat) (w : World) : Gb g w w := ⟨rfl, rfl, rfl, Nat.le_refl _, fun _ _ _ => rfl⟩
theorem Gb.trans {g : Nat} {w w1 w2 : World} (h1 : Gb g w w1) (h2 : Gb g w1 w2) : Gb g w w2 :=
  ⟨h2.os.trans h1.os, h2.tape.trans h1.tape, h2.output.trans h1.output, Nat.le_trans h1.size h2.size, fun k hk hn => (h2.block k (Nat.lt_of_lt_of_le hk h1.size) hn).trans (h1.block k hk hn)⟩
theorem Gb.below {g : Nat} {w w' : World} (h : Below w.heap.size w w') : Gb g w w' := ⟨h.os, h.tape, h.output, h.size, fun k hk _ => h.block k hk⟩
theorem Gb.drewN {g : Nat} {w w' : World} (h : Gb g w w') (n : Nat) : Gb g w (w'.drewN n) := ⟨h.os, h.tape, h.output, h.size, h.block⟩
theorem Gb.drew {g : Nat} {w w' : World} (h : Gb g w w') : Gb g w w'.drew := ⟨h.os, h.tape, h.output, h.size, h.block⟩
theorem Gb.alloc {g : Nat} {w w' : World} (h : Gb g w w') (o : Obj) : Gb g w (w'.alloc o) := h.trans (.below ((Below.refl _ _).alloc (Nat.le_refl _) _))
theorem Gb.setCell {g : Nat} {w w' : World} (h : Gb g w w') (k : Nat) (v : Value) : Gb g w (w'.setCell ⟨g, k, none⟩ v) :=
  ⟨h.os, h.tape, h.output, by simpa using h.size, fun j hj hn => by
    rw [Below.heap_setCell _ _ _ _ (fun e => hn (by rw [e]))]; exact h.block j hj hn⟩
theorem Gb.on {g N : Nat} {w w' : World} (h : Gb g w w') (hN : N ≤ g) (hN0 : N ≤ w.heap.size) : Below N w w' :=
  ⟨h.os, h.tape, h.output, h.size, fun k hk => h.block k (by omega) (fun e => by cases e; omega)⟩
theorem Gb.row {g : Nat} {w w' : World} (h : Gb g w w') {b : Nat} {t : TypeId} {c : Array Value} (hr : Row w b t c) (hb : b ≠ g) : Row w' b t c := hr.same (h.block b hr.lt (fun e => hb (by injection e)))
/-- The reader stands in the block rb, its variable in rv; left are the bytes l. -/
structure Rdr (N : Nat) (w : World) (rb rv : Nat) (l : List UInt8) : Prop where
  row : ∃ v, Row w rb 84 #[v, .func (.func 58) #[] #[.pointer (some ⟨rv, 0, none⟩)]] ∧ InB N w v l
  var : Row w rv 81 #[.pointer (some ⟨rb, 0, none⟩)]
  nb : N ≤ rb
  ll : l.length ≤ 140737488355328
theorem Rdr.ne {N : Nat} {w : World} {rb rv : Nat} {l : List UInt8} (h : Rdr N w rb rv l) : rv ≠ rb := by
  rintro rfl
  obtain ⟨v, hr, _⟩ := h.row
  have hv := h.var
  unfold Row at hr hv
  rw [hr] at hv
  simp at hv
theorem Rdr.nl {N : Nat} {w : World} {rb rv : Nat} {l : List UInt8} (h : Rdr N w rb rv l) : N ≤ w.heap.size := by
  obtain ⟨v, hr, _⟩ := h.row
  have := hr.lt
  have := h.nb
  omega
theorem Rdr.drewN {N : Nat} {w : World} {rb rv : Nat} {l : List UInt8} (h : Rdr N w rb rv l) (n : Nat) : Rdr N (w.drewN n) rb rv l := ⟨h.row, h.var, h.nb, h.ll⟩
theorem Rdr.below {N : Nat} {w w' : World} {rb rv : Nat} {l : List UInt8} (h : Rdr N w rb rv l) (hb : Below w.heap.size w w') : Rdr N w' rb rv l := by
  obtain ⟨v, hr, hi⟩ := h.row
  exact ⟨⟨v, hr.below hb hr.lt, hi.below hb h.nl⟩, h.var.below hb h.var.lt, h.nb, h.ll⟩
theorem Rdr.alloc {N : Nat} {w : World} {rb rv : Nat} {l : List UInt8} (h : Rdr N w rb rv l) (o : Obj) : Rdr N (w.alloc o) rb rv l := h.below ((Below.refl _ _).alloc (Nat.le_refl _) _)
/-- Only a cell of another block is turned. -/
theorem Rdr.other {N : Nat} {w : World} {rb rv : Nat} {l : List UInt8} (h : Rdr N w rb rv l) (g o : Nat) (u : Value) (h1 : g ≠ rb) (h2 : g ≠ rv) (h3 : N ≤ g) : Rdr N (w.setCell ⟨g, o, none⟩ u) rb rv l := by
  obtain ⟨v, hr, hi⟩ := h.row
  refine ⟨⟨v, hr.setOther _ _ (Ne.symm h1), hi.below (M := N) ?_ (Nat.le_refl _)⟩, h.var.setOther _ _ (Ne.symm h2), h.nb, h.ll⟩
  exact (Below.refl _ _).setCell (p := ⟨g, o, none⟩) h3 u
/-- What is left is turned. -/
theorem Rdr.turn {N : Nat} {w : World} {rb rv : Nat} {l : List UInt8} (h : Rdr N w rb rv l) (v' : Value) (l' : List UInt8) (hi : InB N w v' l') (hl : l'.length ≤ 140737488355328) : Rdr N (w.setCell ⟨rb, 0, none⟩ v') rb rv l' := by
  obtain ⟨v, hr, _⟩ := h.row
  exact ⟨⟨v', by simpa using hr.setCell 0 v', hi.below (M := N) ((Below.refl _ _).setCell (p := ⟨rb, 0, none⟩) h.nb v') (Nat.le_refl _)⟩, h.var.setOther _ _ h.ne, h.nb, hl⟩
/-- How a reading ends: with what was read, and what is left; or with a fault. -/
def REnd {α : Type} (N rb rv : Nat) (w : World) (r : Except Int (α × List UInt8)) (V : α → Value → World → Prop) (e : Ending) (w' : World) : Prop :=
  Gb rb w w' ∧ match r with
    | .ok (x, l) => ∃ v, e = .returned v ∧ V x v w' ∧ Rdr N w' rb rv l
    | .error x => e = flt x
/-- The next number. -/
def numF (l : List UInt8) : Except Int (Nat × List UInt8) := if (rdU l).2.2 = 0 then .ok ((rdU l).1, l.drop (rdU l).2.1) else .error (rdU l).2.2
/-- What is left behind s bytes of them: where their room ends with these, the place stays. -/
theorem inB_cut {N : Nat} {w : World} {v : Value} {l : List UInt8} (h : InB N w v l) {s : Nat} (hl : s ≤ l.length) : (v = .slice none 0 0 ∧ l = []) ∨ ∃ b o c, v = .slice (some ⟨b, o, none⟩) l.length c ∧ l.length ≤ c ∧ (c ≠ s → InB N w (.slice (some ⟨b, o + s, none⟩) (l.length - s) (c - s)) (l.drop s)) ∧ (c = s → InB N w (.slice (some ⟨b, o, none⟩) 0 0) (l.drop s)) ∧ InB N w (.slice (some ⟨b, o, none⟩) s c) (l.take s) := by
  rcases h with h | ⟨b, o, c, rfl, hc, h3, h4⟩
  · exact .inl h
  · refine .inr ⟨b, o, c, rfl, hc, fun _ => .inr ⟨b, o + s, c - s, by rw [List.length_drop], by rw [List.length_drop]; omega, h3.imp (fun h => by rw [h]; simp) id, range_drop h4 s⟩, fun e => ?_, .inr ⟨b, o, c, by rw [List.length_take, Nat.min_eq_left hl], by rw [List.length_take]; omega, h3.imp (fun h => by rw [h]; simp) id, range_take h4 s⟩⟩
    have e2 : l.drop s = [] := List.drop_eq_nil_of_le (by omega)
    rw [e2]
    exact .inr ⟨b, o, 0, rfl, Nat.le_refl _, .inl rfl, fun j u hu => by simp at hu⟩

set_option maxRecDepth 100000 in
set_option maxHeartbeats 4000000 in
theorem number_any (N : Nat) (w : World) (rb rv : Nat) (l : List UInt8) (h : Rdr N w rb rv l) :
    Calls Try.prog 58 #[.pointer (some ⟨rv, 0, none⟩)] w (REnd N rb rv w (numF l) fun n v _ => v = .int .u64 (n : Int)) := by
  obtain ⟨v, hr, hi⟩ := h.row
  have c0 : w.cell? ⟨rb, 0, none⟩ = some v := by rw [hr.cell]; rfl
  have cv : w.cell? ⟨rv, 0, none⟩ = some (.pointer (some ⟨rb, 0, none⟩)) := by rw [h.var.cell]; rfl
  have f0 := hr.frozen 0
  have ru := readUint_any N w v l hi h.ll
  have HN := Box'.mk (numF.eq_1 l)
  have HE := Box'.mk (rdU_err (b := l))
  have HS : Box' ((rdU l).2.2 = 0 → 0 < (rdU l).2.1 ∧ (rdU l).2.1 ≤ l.length) := ⟨fun e => by
    have := rdU_form (b := l) (n := (rdU l).1) (s := (rdU l).2.1) (by rw [← e])
    exact ⟨this.2.2.2, this.2.1⟩⟩
  generalize numF l = R at *
  generalize rdU l = U at *
  obtain ⟨n, s, e⟩ := U
  simp only at ru HN HS
  by_cases he : e = 0
  · subst he
    obtain ⟨hs0, hsl⟩ := HS.out rfl
    have e := HN.out
    rw [if_pos rfl] at e
    subst e
    rcases inB_cut hi hsl with ⟨-, rfl⟩ | ⟨b, o, c, rfl, hlc, hi2, hi3, -⟩
    · simp at hsl; omega
    have hll := h.ll
    have HT2 : Box' (c ≠ s → Rdr N (w.setCell ⟨rb, 0, none⟩ (.slice (some ⟨b, o + s, none⟩) (l.length - s) (c - s))) rb rv (l.drop s)) := ⟨fun q => h.turn _ _ (hi2 q) (by rw [List.length_drop]; have := h.ll; omega)⟩
    have HT3 : Box' (c = s → Rdr N (w.setCell ⟨rb, 0, none⟩ (.slice (some ⟨b, o, none⟩) 0 0)) rb rv (l.drop s)) := ⟨fun q => h.turn _ _ (hi3 q) (by rw [List.length_drop]; have := h.ll; omega)⟩
    have HG : Box' (∀ v, Gb rb w (w.setCell ⟨rb, 0, none⟩ v)) := ⟨fun v => (Gb.refl rb w).setCell 0 v⟩
    clear HN HE HS hi hi2 hi3 h hr
    have F : Box' (∀ v' w', v' = .int .u64 (n : Int) → Gb rb w w' → Rdr N w' rb rv (l.drop s) → REnd N rb rv w (.ok (n, l.drop s)) (fun n v _ => v = .int .u64 (n : Int)) (.returned v') (w'.drewN 1)) := ⟨fun v' w' q1 q2 q3 => ⟨q2.drewN 1, v', rfl, q1, q3.drewN 1⟩⟩
    generalize l.drop s = L' at *
    generalize l.length = ln at *
    by_cases hcs : c = s
    · subst hcs
      have ht := Box'.mk (HT3.out rfl)
      clear HT2 HT3
      go_enter Try.func58, Try.ntmps58
      go_wp2_with fail
      refine ru.mono ?_
      rintro e w1 ⟨rfl, rfl⟩
      clear ru
      go_wp2_with fail
      go_region
      go_wp2_with fail
      go_ret
      exact F.out _ _ rfl (HG.out _) ht.out
    · have ht := Box'.mk (HT2.out hcs)
      clear HT2 HT3
      go_enter Try.func58, Try.ntmps58
      go_wp2_with fail
      refine ru.mono ?_
      rintro e w1 ⟨rfl, rfl⟩
      clear ru
      go_wp2_with fail
      go_region
      go_wp2_with fail
      go_ret
      exact F.out _ _ rfl (HG.out _) ht.out
  · have e1 := HN.out
    rw [if_neg he] at e1
    subst e1
    have he' : (e == 0) = false := by simpa using he
    obtain ⟨a, c, rfl, _⟩ := hi.slice
    have fa := fail_any e
    have FA := Box'.mk fa
    clear HN HE HS hi h hr fa
    generalize l.length = ln at *
    go_enter Try.func58, Try.ntmps58
    go_wp2_with fail
    refine ru.mono ?_
    rintro e2 w1 ⟨rfl, rfl⟩
    clear ru
    go_wp2_with fail
    refine (FA.out _).mono ?_
    rintro e2 w1 ⟨rfl, rfl⟩
    exact ⟨rfl, Gb.refl _ _, rfl⟩

/-- The next s bytes. -/
def pieF (s : Nat) (l : List UInt8) : Except Int (List UInt8 × List UInt8) := if l.length < s then .error 7 else .ok (l.take s, l.drop s)
set_option maxRecDepth 100000 in
set_option maxHeartbeats 4000000 in
theorem piece_any (N : Nat) (w : World) (rb rv : Nat) (l : List UInt8) (s : Nat) (hs : s ≤ 65536) (h : Rdr N w rb rv l) :
    Calls Try.prog 60 #[.pointer (some ⟨rb, 0, none⟩), .int .i64 (s : Int)] w (REnd N rb rv w (pieF s l) fun x v w' => InB N w' v x) := by
  obtain ⟨v, hr, hi⟩ := h.row
  have c0 : w.cell? ⟨rb, 0, none⟩ = some v := by rw [hr.cell]; rfl
  have f0 := hr.frozen 0
  have HP := Box'.mk (pieF.eq_1 s l)
  generalize pieF s l = R at *
  have hll := h.ll
  by_cases hls : l.length < s
  · have e := HP.out
    rw [if_pos hls] at e
    subst e
    obtain ⟨a, c, rfl, _⟩ := hi.slice
    have FA := Box'.mk (fail_any 7)
    clear HP hi h hr
    generalize l.length = ln at *
    go_enter Try.func60, Try.ntmps60
    go_wp2_with fail
    refine (FA.out _).mono ?_
    rintro e2 w1 ⟨rfl, rfl⟩
    exact ⟨rfl, Gb.refl _ _, rfl⟩
  · have e := HP.out
    rw [if_neg hls] at e
    subst e
    clear HP
    rcases inB_cut hi (show s ≤ l.length by omega) with ⟨rfl, rfl⟩ | ⟨b, o, c, rfl, hlc, hi2, hi3, hi4⟩
    · have hs0 : s = 0 := by simp at hls; omega
      subst hs0
      have ht := Box'.mk (h.turn (.slice none 0 0) [] (.inl ⟨rfl, rfl⟩) (by simp))
      have HG := Box'.mk ((Gb.refl rb w).setCell 0 (.slice none 0 0))
      clear hi h hr hll hls
      simp only [List.take_nil, List.drop_nil]
      go_enter Try.func60, Try.ntmps60
      go_wp2_with fail
      go_ret
      exact ⟨HG.out, _, rfl, .inl ⟨rfl, rfl⟩, ht.out⟩
    · have HT2 : Box' (c ≠ s → Rdr N (w.setCell ⟨rb, 0, none⟩ (.slice (some ⟨b, o + s, none⟩) (l.length - s) (c - s))) rb rv (l.drop s)) := ⟨fun q => h.turn _ _ (hi2 q) (by rw [List.length_drop]; omega)⟩
      have HT3 : Box' (c = s → Rdr N (w.setCell ⟨rb, 0, none⟩ (.slice (some ⟨b, o, none⟩) 0 0)) rb rv (l.drop s)) := ⟨fun q => h.turn _ _ (hi3 q) (by rw [List.length_drop]; omega)⟩
      have HG : Box' (∀ v, Gb rb w (w.setCell ⟨rb, 0, none⟩ v) ∧ InB N (w.setCell ⟨rb, 0, none⟩ v) (.slice (some ⟨b, o, none⟩) s c) (l.take s)) := ⟨fun v => ⟨(Gb.refl rb w).setCell 0 v, hi4.below (M := N) ((Below.refl _ _).setCell (p := ⟨rb, 0, none⟩) h.nb v) (Nat.le_refl _)⟩⟩
      clear hi hi2 hi3 hi4 h hr
      generalize l.drop s = L' at *
      generalize l.take s = X at *
      generalize l.length = ln at *
      by_cases hcs : c = s
      · subst hcs
        have ht := Box'.mk (HT3.out rfl)
        clear HT2 HT3
        go_enter Try.func60, Try.ntmps60
        go_wp2_with fail
        go_ret
        exact ⟨(HG.out _).1, _, rfl, (HG.out _).2, ht.out⟩
      · have ht := Box'.mk (HT2.out hcs)
        clear HT2 HT3
        go_enter Try.func60, Try.ntmps60
        go_wp2_with fail
        go_ret
        exact ⟨(HG.out _).1, _, rfl, (HG.out _).2, ht.out⟩
end Go.Proofs.Ytpgljhgfoihnjaa
