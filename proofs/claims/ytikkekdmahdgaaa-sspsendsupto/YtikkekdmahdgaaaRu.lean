/- The reference's Tick, whole. -/
import Derived.Test.YtikkekdmahdgaaaRt
namespace Go.Proofs.Ytikkekdmahdgaaa
open Go.RowKit Go.BigFrame
set_option linter.unusedSimpArgs false
set_option linter.unusedVariables false
set_option maxRecDepth 100000
set_option maxHeartbeats 8000000

theorem tick_2 (pace timeout : Int) (p0 : 0 ≤ pace) (p1 : pace < 9223372036854775808) (t0 : 0 ≤ timeout) (t1 : timeout < 9223372036854775808) (w wx : World) (p p8 g n c : Nat) (s : Sd) (F : Nat → Prop) (hF : F = fun k => k = p ∨ (Value.slice (some ⟨g, 0, none⟩) n c).ownBlock = some k) (now : UInt64) (H0 : SnR w F p s) (hp : p < w.heap.size) (hr : Row w p 34 (sdA s (.slice (some ⟨g, 0, none⟩) n c))) (ho : OwnR 0 w (.slice (some ⟨g, 0, none⟩) n c) s.l) (hb : Below w.heap.size w wx) (hln : s.l.length = n) (h1 : 0 < s.l.length) (h2 : s.l.length ≤ 32) (hp8 : w.heap.size ≤ p8) (hz : Row wx p8 41 (insA Ins.none (.slice none 0 0))) (ht : ∀ y, y ∈ s.l → y.t.length ≤ 4398046511104) (htn : s.now.length ≤ 4398046511104) (u4 u5 u6 u7 u11 u12 u13 u14 u15 u16 u17 u18 u19 u20 u21 u22 u23 u24 u25 u26 u27 u28 u29 u30 u31 u32 u33 u34 u35 u36 u37 u38 u39 u40 u41 u42 u43 u44 u45 u46 u47 u48 u49 u50 u51 u52 u53 u54 u55 u56 u57 u58 u59 u60 u61 u62 u63 u64 u65 u66 u67 u68 u69 u70 u71 u72 u73 u74 u75 u76 u77 u78 u79 u80 u81 u82 u83 u84 u85 u86 u87 u88 u89 u90 u91 u92 u93 u94 u95 u96 u97 u98 u99 u100 u101 u102 u103 u104 u105 u106 u107 u108 u109 u110 u111 u112 u113 u114 u115 u116 u117 u118 u119 u120 u121 u122 u123 u124 u125 u126 u127 u128 u129 u130 u131 u132 u133 u134 u135 u136 u137 u138 u139 u140 u141 u142 u143 u144 u145 u146 u147 u148 u149 u150 u151 u152 u153 u154 u155 u156 u157 u158 u159 u160 u161 u162 u163 u164 u165 u166 u167 u168 u169 u170 u171 u172 u173 u174 u175 u176 u177 u178 u179 u180 u181 u182 u183 u184 u185 u186 u187 u188 u189 u190 u191 u192 u193 u194 u195 u196 u197 u198 u199 u200 u201 : Value) :
    Code.wp Try.prog (seqR (seqR (Try.f14.body.getD .skip))) (bodyPost Try.prog Try.f14 fun e w' => (∃ F' vb, e = .returned (.tuple #[.agg (insA (tk6 s now (frF s now pace) (agF s now timeout) (heF s now)).2.1 vb), .bool (tk6 s now (frF s now pace) (agF s now timeout) (heF s now)).2.2.1, .int .i64 (tk6 s now (frF s now pace) (agF s now timeout) (heF s now)).2.2.2]) ∧ SnR w' F' p (tk6 s now (frF s now pace) (agF s now timeout) (heF s now)).1 ∧ InX (fun b => w.heap.size ≤ b ∧ b < w'.heap.size ∧ ¬ F' b) w' vb (tk6 s now (frF s now pace) (agF s now timeout) (heF s now)).2.1.dif ∧ Tch F w w' ∧ ∀ k, F' k → F k ∨ w.heap.size ≤ k)) ⟨List.toArray (.pointer (some ⟨p, 0, none⟩) :: .int .u64 (now.toNat : Int) :: .int .i64 pace :: .int .i64 timeout :: u4 :: u5 :: u6 :: u7 :: .pointer (some ⟨p8, 0, none⟩) :: .bool false :: .int .i64 0 :: u11 :: u12 :: u13 :: u14 :: u15 :: u16 :: u17 :: u18 :: u19 :: u20 :: u21 :: u22 :: u23 :: u24 :: u25 :: u26 :: u27 :: u28 :: u29 :: u30 :: u31 :: u32 :: u33 :: u34 :: u35 :: u36 :: u37 :: u38 :: u39 :: u40 :: u41 :: u42 :: u43 :: u44 :: u45 :: u46 :: u47 :: u48 :: u49 :: u50 :: u51 :: u52 :: u53 :: u54 :: u55 :: u56 :: u57 :: u58 :: u59 :: u60 :: u61 :: u62 :: u63 :: u64 :: u65 :: u66 :: u67 :: u68 :: u69 :: u70 :: u71 :: u72 :: u73 :: u74 :: u75 :: u76 :: u77 :: u78 :: u79 :: u80 :: u81 :: u82 :: u83 :: u84 :: u85 :: u86 :: u87 :: u88 :: u89 :: u90 :: u91 :: u92 :: u93 :: u94 :: u95 :: u96 :: u97 :: u98 :: u99 :: u100 :: u101 :: u102 :: u103 :: u104 :: u105 :: u106 :: u107 :: u108 :: u109 :: u110 :: u111 :: u112 :: u113 :: u114 :: u115 :: u116 :: u117 :: u118 :: u119 :: u120 :: u121 :: u122 :: u123 :: u124 :: u125 :: u126 :: u127 :: u128 :: u129 :: u130 :: u131 :: u132 :: u133 :: u134 :: u135 :: u136 :: u137 :: u138 :: u139 :: u140 :: u141 :: u142 :: u143 :: u144 :: u145 :: u146 :: u147 :: u148 :: u149 :: u150 :: u151 :: u152 :: u153 :: u154 :: u155 :: u156 :: u157 :: u158 :: u159 :: u160 :: u161 :: u162 :: u163 :: u164 :: u165 :: u166 :: u167 :: u168 :: u169 :: u170 :: u171 :: u172 :: u173 :: u174 :: u175 :: u176 :: u177 :: u178 :: u179 :: u180 :: u181 :: u182 :: u183 :: u184 :: u185 :: u186 :: u187 :: u188 :: u189 :: u190 :: u191 :: u192 :: u193 :: u194 :: u195 :: u196 :: u197 :: u198 :: u199 :: u200 :: u201 :: []), []⟩ wx := by
  conv => arg 2; whnf
  have T3 := Box'.mk (fun wz b11 (bz : Below wx.heap.size wx wz) (h11 : w.heap.size ≤ b11) (hl : Row wz b11 50 (rC (lastR s.l)).toArray) => tick_3 pace timeout p0 p1 t0 t1 w wz p p8 b11 g n c s F hF now H0 hp hr ho (hb.trans (bz.mono hb.size)) hln h1 h2 hp8 (hz.below bz hz.lt) h11 hl ht htn)
  have r7 := hr.below hb hp
  have C1 : Box' (∀ wa, Below wx.heap.size wx wa → wa.cell? ⟨p, 1, none⟩ = some (.slice (some ⟨g, 0, none⟩) n c)) := ⟨fun wa hb => (r7.below hb r7.lt).cell 1⟩
  have o7 := ho.below hb
  obtain ⟨g', c', e1, hnc, _, hg2, hcl⟩ := o7.cells h1
  have hgg : g = g' := by injection e1 with q1 _ _; injection q1 with q1; injection q1 with q1
  subst hgg
  have hnc' : n ≤ c := by obtain ⟨_, _, e, q⟩ := ho.slice; injection e with _ _ e; omega
  have LL : Box' (∀ wa, Below wx.heap.size wx wa → wa.cell? ⟨g, (n - 1) * 3, none⟩ = some (.int .u64 ((lastR s.l).n.toNat : Int)) ∧ wa.cell? ⟨g, (n - 1) * 3 + 1, none⟩ = some (.string ⟨(lastR s.l).t.toArray⟩) ∧ wa.cell? ⟨g, (n - 1) * 3 + 2, none⟩ = some (.int .u64 ((lastR s.l).a.toNat : Int))) := ⟨fun wa hb => by
    have ce : ∀ q, wa.cell? ⟨g, q, none⟩ = wx.cell? ⟨g, q, none⟩ := fun q => hb.cell (p := ⟨g, q, none⟩) hg2
    have := rowsC_at s.l (s.l.length - 1) (by omega)
    rw [← hln]
    exact ⟨(ce _).trans (hcl _ _ this.1), (ce _).trans (hcl _ _ this.2.1), (ce _).trans (hcl _ _ this.2.2)⟩⟩
  have hn0 : 0 < n := by omega
  have hn32 : n ≤ 32 := by omega
  have hbs := hb.size
  have RE : Box' ((rC (lastR s.l)).toArray = #[.int .u64 ((lastR s.l).n.toNat : Int), .string ⟨(lastR s.l).t.toArray⟩, .int .u64 ((lastR s.l).a.toNat : Int)]) := ⟨rfl⟩
  generalize (lastR s.l).n = ln at LL RE
  generalize (lastR s.l).t = lt at LL RE
  generalize (lastR s.l).a = la at LL RE
  clear H0 hr ho hz ht htn r7 o7 hcl e1 hg2 hb
  refine wp_seq_k fun K hK => ?_
  have HK := Box'.mk hK
  clear hK
  go_upto_region 3 with (fail)
  refine wp_region_grow 13 (by kernel_rfl) (by kernel_rfl) (fun wa wb => Below wa.heap.size wa wb) (fun wa => Below wx.heap.size wx wa) (fun kc wa v => match kc with
    | 0 => v = .pointer (some ⟨p, 0, none⟩)
    | 1 => v = .pointer (some ⟨p, 0, none⟩)
    | 2 => v = .pointer (some ⟨p, 1, none⟩)
    | 3 => v = .slice (some ⟨g, 0, none⟩) n c
    | 4 => v = .pointer (some ⟨p, 0, none⟩)
    | 5 => v = .pointer (some ⟨p, 0, none⟩)
    | 6 => v = .pointer (some ⟨p, 1, none⟩)
    | 7 => v = .slice (some ⟨g, 0, none⟩) n c
    | 8 => v = .int .i64 (n : Int)
    | 9 => v = .int .i64 ((n : Int) - 1)
    | 10 => v = .pointer (some ⟨g, (n - 1) * 3, none⟩)
    | 11 => v = .agg #[.int .u64 (ln.toNat : Int), .string ⟨lt.toArray⟩, .int .u64 (la.toNat : Int)]
    | 12 => ∃ b, v = .pointer (some ⟨b, 0, none⟩) ∧ Row wa b 50 #[.int .u64 0, .string ⟨#[]⟩, .int .u64 0] ∧ wx.heap.size ≤ b
    | _ => True) ?_ ?_ ?_ ?_ ?_
  · intro wa wb hb q; exact q.trans (hb.mono q.size)
  · intro kc v wa wb hC1 hb h
    match kc, h with
    | 0, h => exact h
    | 1, h => exact h
    | 2, h => exact h
    | 3, h => exact h
    | 4, h => exact h
    | 5, h => exact h
    | 6, h => exact h
    | 7, h => exact h
    | 8, h => exact h
    | 9, h => exact h
    | 10, h => exact h
    | 11, h => exact h
    | 12, h => exact let ⟨b, h1, h2, h3⟩ := h; ⟨b, h1, h2.below hb h2.lt, h3⟩
    | kc + 13, h => trivial
  · exact (Below.refl _ _).drew
  · refine ⟨?_, ?_, ?_, ?_, ?_, ?_, ?_, ?_, ?_, ?_, ?_, ?_, ?_, trivial⟩
    · intro f wq hC hd KK hK
      simp only [List.take_succ_cons, List.take_zero, setAll, List.setIfInBounds_toArray, List.set_cons_succ, List.set_cons_zero, Nat.zero_add, Nat.reduceAdd] at hK ⊢
      refine wp_of_quiet rfl ?_
      go_big_quiet_step (fail)
      exact wpQuiet_nil (hK _ _ rfl (Below.refl _ _))
    · intro f wq hC hd KK hK
      have g0 : f 0 = .pointer (some ⟨p, 0, none⟩) := hd 0 (by kernel_rfl)
      simp only [List.take_succ_cons, List.take_zero, setAll, List.setIfInBounds_toArray, List.set_cons_succ, List.set_cons_zero, Nat.zero_add, Nat.reduceAdd, g0] at hK ⊢
      refine wp_of_quiet rfl ?_
      go_big_quiet_step (fail)
      exact wpQuiet_nil (hK _ _ rfl (Below.refl _ _))
    · intro f wq hC hd KK hK
      have g1 : f 1 = .pointer (some ⟨p, 0, none⟩) := hd 1 (by kernel_rfl)
      simp only [List.take_succ_cons, List.take_zero, setAll, List.setIfInBounds_toArray, List.set_cons_succ, List.set_cons_zero, Nat.zero_add, Nat.reduceAdd, g1] at hK ⊢
      refine wp_of_quiet rfl ?_
      go_big_quiet_step (fail)
      exact wpQuiet_nil (hK _ _ rfl (Below.refl _ _))
    · intro f wq hC hd KK hK
      have g2 : f 2 = .pointer (some ⟨p, 1, none⟩) := hd 2 (by kernel_rfl)
      have cx := C1.out wq hC
      simp only [List.take_succ_cons, List.take_zero, setAll, List.setIfInBounds_toArray, List.set_cons_succ, List.set_cons_zero, Nat.zero_add, Nat.reduceAdd, g2] at hK ⊢
      refine wp_of_quiet rfl ?_
      go_big_quiet_step (fail)
      exact wpQuiet_nil (hK _ _ rfl (Below.refl _ _))
    · intro f wq hC hd KK hK
      simp only [List.take_succ_cons, List.take_zero, setAll, List.setIfInBounds_toArray, List.set_cons_succ, List.set_cons_zero, Nat.zero_add, Nat.reduceAdd] at hK ⊢
      refine wp_of_quiet rfl ?_
      go_big_quiet_step (fail)
      exact wpQuiet_nil (hK _ _ rfl (Below.refl _ _))
    · intro f wq hC hd KK hK
      have g4 : f 4 = .pointer (some ⟨p, 0, none⟩) := hd 4 (by kernel_rfl)
      simp only [List.take_succ_cons, List.take_zero, setAll, List.setIfInBounds_toArray, List.set_cons_succ, List.set_cons_zero, Nat.zero_add, Nat.reduceAdd, g4] at hK ⊢
      refine wp_of_quiet rfl ?_
      go_big_quiet_step (fail)
      exact wpQuiet_nil (hK _ _ rfl (Below.refl _ _))
    · intro f wq hC hd KK hK
      have g5 : f 5 = .pointer (some ⟨p, 0, none⟩) := hd 5 (by kernel_rfl)
      simp only [List.take_succ_cons, List.take_zero, setAll, List.setIfInBounds_toArray, List.set_cons_succ, List.set_cons_zero, Nat.zero_add, Nat.reduceAdd, g5] at hK ⊢
      refine wp_of_quiet rfl ?_
      go_big_quiet_step (fail)
      exact wpQuiet_nil (hK _ _ rfl (Below.refl _ _))
    · intro f wq hC hd KK hK
      have g6 : f 6 = .pointer (some ⟨p, 1, none⟩) := hd 6 (by kernel_rfl)
      have cx := C1.out wq hC
      simp only [List.take_succ_cons, List.take_zero, setAll, List.setIfInBounds_toArray, List.set_cons_succ, List.set_cons_zero, Nat.zero_add, Nat.reduceAdd, g6] at hK ⊢
      refine wp_of_quiet rfl ?_
      go_big_quiet_step (fail)
      exact wpQuiet_nil (hK _ _ rfl (Below.refl _ _))
    · intro f wq hC hd KK hK
      have g7 : f 7 = .slice (some ⟨g, 0, none⟩) n c := hd 7 (by kernel_rfl)
      simp only [List.take_succ_cons, List.take_zero, setAll, List.setIfInBounds_toArray, List.set_cons_succ, List.set_cons_zero, Nat.zero_add, Nat.reduceAdd, g7] at hK ⊢
      refine wp_of_quiet rfl ?_
      go_big_quiet_step (fail)
      exact wpQuiet_nil (hK _ _ rfl (Below.refl _ _))
    · intro f wq hC hd KK hK
      have g8 : f 8 = .int .i64 (n : Int) := hd 8 (by kernel_rfl)
      simp only [List.take_succ_cons, List.take_zero, setAll, List.setIfInBounds_toArray, List.set_cons_succ, List.set_cons_zero, Nat.zero_add, Nat.reduceAdd, g8] at hK ⊢
      refine wp_of_quiet rfl ?_
      go_big_quiet_step (fail)
      exact wpQuiet_nil (hK _ _ rfl (Below.refl _ _))
    · intro f wq hC hd KK hK
      have g3 : f 3 = .slice (some ⟨g, 0, none⟩) n c := hd 3 (by kernel_rfl)
      have g9 : f 9 = .int .i64 ((n : Int) - 1) := hd 9 (by kernel_rfl)
      simp only [List.take_succ_cons, List.take_zero, setAll, List.setIfInBounds_toArray, List.set_cons_succ, List.set_cons_zero, Nat.zero_add, Nat.reduceAdd, g3, g9] at hK ⊢
      refine wp_of_quiet rfl ?_
      go_big_quiet_step (fail)
      exact wpQuiet_nil (hK _ _ rfl (Below.refl _ _))
    · intro f wq hC hd KK hK
      have g10 : f 10 = .pointer (some ⟨g, (n - 1) * 3, none⟩) := hd 10 (by kernel_rfl)
      have cx0 := And.left (LL.out wq hC)
      have cx1 := And.left (And.right (LL.out wq hC))
      have cx2 := And.right (And.right (LL.out wq hC))
      simp only [List.take_succ_cons, List.take_zero, setAll, List.setIfInBounds_toArray, List.set_cons_succ, List.set_cons_zero, Nat.zero_add, Nat.reduceAdd, g10] at hK ⊢
      refine wp_of_quiet rfl ?_
      go_big_quiet_step (fail)
      exact wpQuiet_nil (hK _ _ rfl (Below.refl _ _))
    · intro f wq hC hd KK hK
      simp only [List.take_succ_cons, List.take_zero, setAll, List.setIfInBounds_toArray, List.set_cons_succ, List.set_cons_zero, Nat.zero_add, Nat.reduceAdd] at hK ⊢
      refine wp_alloc_row 50 rfl #[.int .u64 0, .string ⟨#[]⟩, .int .u64 0] 3 (by kernel_rfl) ?_
      exact hK _ _ ⟨_, rfl, Row.new _ _ _, hC.size⟩ ((Below.refl _ _).alloc (Nat.le_refl _) _)
  intro f wq hC hv
  have g0 : f 0 = .pointer (some ⟨p, 0, none⟩) := hv 0 (by decide)
  have g1 : f 1 = .pointer (some ⟨p, 0, none⟩) := hv 1 (by decide)
  have g2 : f 2 = .pointer (some ⟨p, 1, none⟩) := hv 2 (by decide)
  have g3 : f 3 = .slice (some ⟨g, 0, none⟩) n c := hv 3 (by decide)
  have g4 : f 4 = .pointer (some ⟨p, 0, none⟩) := hv 4 (by decide)
  have g5 : f 5 = .pointer (some ⟨p, 0, none⟩) := hv 5 (by decide)
  have g6 : f 6 = .pointer (some ⟨p, 1, none⟩) := hv 6 (by decide)
  have g7 : f 7 = .slice (some ⟨g, 0, none⟩) n c := hv 7 (by decide)
  have g8 : f 8 = .int .i64 (n : Int) := hv 8 (by decide)
  have g9 : f 9 = .int .i64 ((n : Int) - 1) := hv 9 (by decide)
  have g10 : f 10 = .pointer (some ⟨g, (n - 1) * 3, none⟩) := hv 10 (by decide)
  have g11 : f 11 = .agg #[.int .u64 (ln.toNat : Int), .string ⟨lt.toArray⟩, .int .u64 (la.toNat : Int)] := hv 11 (by decide)
  obtain ⟨bq, hbq, rbq, zbq⟩ : ∃ b, f 12 = .pointer (some ⟨b, 0, none⟩) ∧ Row wq b 50 #[.int .u64 0, .string ⟨#[]⟩, .int .u64 0] ∧ wx.heap.size ≤ b := hv 12 (by decide)
  simp only [List.take_succ_cons, List.take_zero, List.drop_succ_cons, List.drop_zero, setAll, List.setIfInBounds_toArray, List.set_cons_succ, List.set_cons_zero, Nat.zero_add, Nat.reduceAdd, g0, g1, g2, g3, g4, g5, g6, g7, g8, g9, g10, g11, hbq]
  clear g0 g1 g2 g3 g4 g5 g6 g7 g8 g9 g10 g11 hbq hv
  have rq := rbq.room (n := 3) rfl
  obtain ⟨wE, hwE⟩ : ∃ wE, wE = wq.setRow bq #[.int .u64 (ln.toNat : Int), .string ⟨lt.toArray⟩, .int .u64 (la.toNat : Int)] := ⟨_, rfl⟩
  have BE : Box' (Below wx.heap.size wx wE) := ⟨by rw [hwE]; exact below_setRow hC zbq _⟩
  have RW : Box' (Row wE bq 50 (rC (lastR s.l)).toArray) := ⟨by rw [RE.out, hwE]; exact rbq.setRow _⟩
  clear rbq hC C1 LL RE
  go_wp2_with (first | (refine wpList_store_row rfl 50 (.tmp 11) (.tmp 44) rfl bq rfl _ rfl 50 3 rq (by kernel_rfl) rfl (by simp [Value.oneCell']) ?_; rw [← hwE]; clear rq hwE) | fail)
  refine HK.out _ _ ?_
  exact T3.out wE bq BE.out (by omega) RW.out _ _ _ _ _ _ _ _ _ _ _ _ _ _ _ _ _ _ _ _ _ _ _ _ _ _ _ _ _ _ _ _ _ _ _ _ _ _ _ _ _ _ _ _ _ _ _ _ _ _ _ _ _ _ _ _ _ _ _ _ _ _ _ _ _ _ _ _ _ _ _ _ _ _ _ _ _ _ _ _ _ _ _ _ _ _ _ _ _ _ _ _ _ _ _ _ _ _ _ _ _ _ _ _ _ _ _ _ _ _ _ _ _ _ _ _ _ _ _ _ _ _ _ _ _ _ _ _ _ _ _ _ _ _ _ _ _ _ _ _ _ _ _ _ _ _ _ _ _ _ _ _ _ _ _ _ _ _ _ _ _ _ _ _ _ _ _ _ _ _ _ _ _ _ _ _ _ _ _ _ _ _ _ _ _ _ _ _ _ _ _ _ _ _

theorem tick_tk6 (s : Sd) (now : UInt64) (pace timeout : Int) (h1 : ¬ pace < 0) (h2 : ¬ timeout < 0) (h3 : ¬ now.toNat < s.seen.toNat) : tickF s now pace timeout = tk6 s now (frF s now pace) (agF s now timeout) (heF s now) := by
  unfold tickF tk6
  rw [if_neg (by rintro (h | h | h); exact h1 h; exact h2 h; exact h3 h)]
  unfold rowsT
  cases frF s now pace <;> cases agF s now timeout <;> cases heF s now <;> simp
theorem tick_any (w : World) (F : Nat → Prop) (p : Nat) (s : Sd) (now : UInt64) (pace timeout : Int) (h : SnR w F p s) (ht : ∀ y, y ∈ s.l → y.t.length ≤ 4398046511104) (htn : s.now.length ≤ 4398046511104) (p0 : -9223372036854775808 ≤ pace) (p1 : pace < 9223372036854775808) (t0 : -9223372036854775808 ≤ timeout) (t1 : timeout < 9223372036854775808) :
    Calls Try.prog 14 #[.pointer (some ⟨p, 0, none⟩), uV now, .int .i64 pace, .int .i64 timeout] w fun e w' => (∃ F' vb, e = .returned (.tuple #[.agg (insA (tickF s now pace timeout).2.1 vb), .bool (tickF s now pace timeout).2.2.1, .int .i64 (tickF s now pace timeout).2.2.2]) ∧ SnR w' F' p (tickF s now pace timeout).1 ∧ InX (fun b => w.heap.size ≤ b ∧ b < w'.heap.size ∧ ¬ F' b) w' vb (tickF s now pace timeout).2.1.dif ∧ Tch F w w' ∧ ∀ k, F' k → F k ∨ w.heap.size ≤ k) := by
  have H0 := Box'.mk h
  obtain ⟨v, hF, hr, ho, h1, h2⟩ := h
  obtain ⟨g, c, rfl, hnc, _, hg, _⟩ := ho.cells h1
  generalize hln : s.l.length = n at *
  have hln' := Box'.mk hln
  have ho' : OwnR 0 w (.slice (some ⟨g, 0, none⟩) n c) s.l := ho
  have hb : Below w.heap.size w (w.alloc (.cells (insA Ins.none (.slice none 0 0)) 41)) := (Below.refl _ _).alloc (Nat.le_refl _) _
  have hz := Row.new w 41 (insA Ins.none (.slice none 0 0))
  have rm : Room (w.alloc (.cells (insA Ins.none (.slice none 0 0)) 41)) w.heap.size 41 5 := hz.room rfl
  obtain ⟨wC, hwC⟩ : ∃ wC, wC = (w.alloc (.cells (insA Ins.none (.slice none 0 0)) 41)).setRow w.heap.size #[.int .u64 0, .int .u64 0, .int .u64 0, .int .u64 0, .slice none 0 0] := ⟨_, rfl⟩
  have RC : Box' (Row wC w.heap.size 41 #[.int .u64 0, .int .u64 0, .int .u64 0, .int .u64 0, .slice none 0 0]) := ⟨by rw [hwC]; exact rm.setRow _⟩
  have BC : Box' (Below w.heap.size w wC) := ⟨by rw [hwC]; exact below_setRow hb (Nat.le_refl _) _⟩
  have c4 : (w.alloc (.cells (insA Ins.none (.slice none 0 0)) 41)).cell? ⟨p, 4, none⟩ = some (.int .u64 (s.seen.toNat : Int)) := (hr.below hb hr.lt).cell 4
  have T2 := Box'.mk (fun (hp0 : 0 ≤ pace) (ht0 : 0 ≤ timeout) => tick_2 pace timeout hp0 p1 ht0 t1 w _ p w.heap.size g n c s F hF now H0.out hr.lt hr ho' hb hln (by omega) (by omega) (Nat.le_refl _) hz ht htn)
  have e0 : insA Ins.none (.slice none 0 0) = #[.int .u64 0, .int .u64 0, .int .u64 0, .int .u64 0, .slice none 0 0] := rfl
  have TF := Box'.mk (tick_tk6 s now pace timeout)
  have TD := Box'.mk (tickF.eq_1 s now pace timeout)
  rw [e0] at c4 rm hwC T2
  unfold uV
  have hnow := now.toNat_lt
  have hsn := s.seen.toNat_lt
  clear hr ho ho' hz hb ht htn e0 hF
  go_enter Try.func14, Try.ntmps14
  refine wp_seq_k fun K hK => ?_
  have HK := Box'.mk hK
  clear hK
  go_wp2_with fail
  refine HK.out _ _ ?_
  refine wp_seq_k fun K2 hK2 => ?_
  have HK2 := Box'.mk hK2
  clear hK2
  by_cases e1 : pace < 0
  · have TE : Box' (tickF s now pace timeout = (s, Ins.none, false, 2)) := ⟨by rw [TD.out, if_pos (.inl e1)]⟩
    clear TF TD
    clear T2
    go_wp2_with (first | (refine wpList_store_row rfl 41 (.tmp 8) (.tmp 32) rfl w.heap.size rfl _ rfl 41 5 rm (by kernel_rfl) rfl (by simp [Value.oneCell']) ?_; rw [← hwC]; clear rm hwC) | fail)
    refine bodyPost_ret (results_row2 rfl _ w.heap.size rfl (.bool false) (.int .i64 2) rfl rfl 41 _ RC.out _ Try.underlying41 rfl 5 (by kernel_rfl) rfl) rfl ?_
    exact ⟨F, .slice none 0 0, by rw [TE.out]; rfl, by rw [TE.out]; exact H0.out.keep fun k hk => BC.out.block k (H0.out.lt k hk), by rw [TE.out]; exact .inl ⟨rfl, rfl⟩, Tch.of BC.out, fun k hk => .inl hk⟩
  by_cases e2 : timeout < 0
  · have TE : Box' (tickF s now pace timeout = (s, Ins.none, false, 2)) := ⟨by rw [TD.out, if_pos (.inr (.inl e2))]⟩
    clear TF TD
    clear T2
    go_wp2_with (first | (refine wpList_store_row rfl 41 (.tmp 8) (.tmp 32) rfl w.heap.size rfl _ rfl 41 5 rm (by kernel_rfl) rfl (by simp [Value.oneCell']) ?_; rw [← hwC]; clear rm hwC) | fail)
    refine bodyPost_ret (results_row2 rfl _ w.heap.size rfl (.bool false) (.int .i64 2) rfl rfl 41 _ RC.out _ Try.underlying41 rfl 5 (by kernel_rfl) rfl) rfl ?_
    exact ⟨F, .slice none 0 0, by rw [TE.out]; rfl, by rw [TE.out]; exact H0.out.keep fun k hk => BC.out.block k (H0.out.lt k hk), by rw [TE.out]; exact .inl ⟨rfl, rfl⟩, Tch.of BC.out, fun k hk => .inl hk⟩
  by_cases e3 : now.toNat < s.seen.toNat
  · have TE : Box' (tickF s now pace timeout = (s, Ins.none, false, 2)) := ⟨by rw [TD.out, if_pos (.inr (.inr e3))]⟩
    clear TF TD
    generalize now.toNat = x at *
    generalize s.seen.toNat = y at *
    clear T2
    go_wp2_with (first | (refine wpList_store_row rfl 41 (.tmp 8) (.tmp 32) rfl w.heap.size rfl _ rfl 41 5 rm (by kernel_rfl) rfl (by simp [Value.oneCell']) ?_; rw [← hwC]; clear rm hwC) | fail)
    refine bodyPost_ret (results_row2 rfl _ w.heap.size rfl (.bool false) (.int .i64 2) rfl rfl 41 _ RC.out _ Try.underlying41 rfl 5 (by kernel_rfl) rfl) rfl ?_
    exact ⟨F, .slice none 0 0, by rw [TE.out]; rfl, by rw [TE.out]; exact H0.out.keep fun k hk => BC.out.block k (H0.out.lt k hk), by rw [TE.out]; exact .inl ⟨rfl, rfl⟩, Tch.of BC.out, fun k hk => .inl hk⟩
  · have tf := TF.out (by omega) (by omega) (by omega)
    have T2' := T2.out (by omega) (by omega)
    have TT := Box'.mk T2'
    have TFB := Box'.mk tf
    clear TF TD tf T2' T2 rm hwC
    go_wp2_with fail
    refine HK2.out _ _ ?_
    rw [← TFB.out] at TT
    exact TT.out _ _ _ _ _ _ _ _ _ _ _ _ _ _ _ _ _ _ _ _ _ _ _ _ _ _ _ _ _ _ _ _ _ _ _ _ _ _ _ _ _ _ _ _ _ _ _ _ _ _ _ _ _ _ _ _ _ _ _ _ _ _ _ _ _ _ _ _ _ _ _ _ _ _ _ _ _ _ _ _ _ _ _ _ _ _ _ _ _ _ _ _ _ _ _ _ _ _ _ _ _ _ _ _ _ _ _ _ _ _ _ _ _ _ _ _ _ _ _ _ _ _ _ _ _ _ _ _ _ _ _ _ _ _ _ _ _ _ _ _ _ _ _ _ _ _ _ _ _ _ _ _ _ _ _ _ _ _ _ _ _ _ _ _ _ _ _ _ _ _ _ _ _ _ _ _ _ _ _ _ _ _ _ _ _ _ _ _ _ _ _ _ _ _ _
end Go.Proofs.Ytikkekdmahdgaaa
