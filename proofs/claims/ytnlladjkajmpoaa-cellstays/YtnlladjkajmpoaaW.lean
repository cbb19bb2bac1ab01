/- take: what the first parameter makes of a look. -/
import Derived.Test.YtnlladjkajmpoaaV
namespace Go.Proofs.Ytnlladjkajmpoaa
open Go.RowKit Go.BigFrame
set_option linter.unusedVariables false
set_option linter.unusedSimpArgs false

theorem orb1 : ∀ a b c d e f g h : Bool, bits .or .u16 ((fl a b c d e f g h : Nat) : Int) 2 = ((fl true b c d e f g h : Nat) : Int) := by decide +kernel
theorem anb1 : ∀ a b c d e f g h : Bool, bits .andNot .u16 ((fl a b c d e f g h : Nat) : Int) 2 = ((fl false b c d e f g h : Nat) : Int) := by decide +kernel
theorem orb2 : ∀ a b c d e f g h : Bool, bits .or .u16 ((fl a b c d e f g h : Nat) : Int) 4 = ((fl a true c d e f g h : Nat) : Int) := by decide +kernel
theorem anb2 : ∀ a b c d e f g h : Bool, bits .andNot .u16 ((fl a b c d e f g h : Nat) : Int) 4 = ((fl a false c d e f g h : Nat) : Int) := by decide +kernel
theorem orb3 : ∀ a b c d e f g h : Bool, bits .or .u16 ((fl a b c d e f g h : Nat) : Int) 8 = ((fl a b true d e f g h : Nat) : Int) := by decide +kernel
theorem anb3 : ∀ a b c d e f g h : Bool, bits .andNot .u16 ((fl a b c d e f g h : Nat) : Int) 8 = ((fl a b false d e f g h : Nat) : Int) := by decide +kernel
theorem orb4 : ∀ a b c d e f g h : Bool, bits .or .u16 ((fl a b c d e f g h : Nat) : Int) 16 = ((fl a b c true e f g h : Nat) : Int) := by decide +kernel
theorem anb4 : ∀ a b c d e f g h : Bool, bits .andNot .u16 ((fl a b c d e f g h : Nat) : Int) 16 = ((fl a b c false e f g h : Nat) : Int) := by decide +kernel
theorem orb5 : ∀ a b c d e f g h : Bool, bits .or .u16 ((fl a b c d e f g h : Nat) : Int) 32 = ((fl a b c d true f g h : Nat) : Int) := by decide +kernel
theorem anb5 : ∀ a b c d e f g h : Bool, bits .andNot .u16 ((fl a b c d e f g h : Nat) : Int) 32 = ((fl a b c d false f g h : Nat) : Int) := by decide +kernel
theorem orb7 : ∀ a b c d e f g h : Bool, bits .or .u16 ((fl a b c d e f g h : Nat) : Int) 128 = ((fl a b c d e true g h : Nat) : Int) := by decide +kernel
theorem anb7 : ∀ a b c d e f g h : Bool, bits .andNot .u16 ((fl a b c d e f g h : Nat) : Int) 128 = ((fl a b c d e false g h : Nat) : Int) := by decide +kernel
theorem orb8 : ∀ a b c d e f g h : Bool, bits .or .u16 ((fl a b c d e f g h : Nat) : Int) 256 = ((fl a b c d e f true h : Nat) : Int) := by decide +kernel
theorem anb8 : ∀ a b c d e f g h : Bool, bits .andNot .u16 ((fl a b c d e f g h : Nat) : Int) 256 = ((fl a b c d e f false h : Nat) : Int) := by decide +kernel
theorem orb9 : ∀ a b c d e f g h : Bool, bits .or .u16 ((fl a b c d e f g h : Nat) : Int) 512 = ((fl a b c d e f g true : Nat) : Int) := by decide +kernel
theorem anb9 : ∀ a b c d e f g h : Bool, bits .andNot .u16 ((fl a b c d e f g h : Nat) : Int) 512 = ((fl a b c d e f g false : Nat) : Int) := by decide +kernel
theorem anb6 : ∀ a b c d e f g h : Bool, bits .andNot .u16 ((fl a b c d e f g h : Nat) : Int) 6 = ((fl false false c d e f g h : Nat) : Int) := by decide +kernel
set_option maxHeartbeats 2000000 in
theorem take_or1 (g b o m cp : Nat) (hm : 0 < m) (hcp : m ≤ cp) (hl : m ≤ 140737488355328) (w : World) (d0 : w.cell? ⟨b, o, none⟩ = some (.int .i64 1)) (n : Nat) (hlt : n < 1024) (c2 : w.cell? ⟨g, 2, none⟩ = some (.int .u16 (n : Int))) (f2 : w.frozen? ⟨g, 2, none⟩ = false) :
    Calls Try.prog 29 #[.pointer (some ⟨g, 0, none⟩), .slice (some ⟨b, o, none⟩) m cp] w fun e w' => e = .returned (.int .i64 1) ∧ w' = (w.setCell ⟨g, 2, none⟩ (.int .u16 (bits .or .u16 (n : Int) 2))).drew := by
  go_enter Try.func29, Try.ntmps29
  go_wp2_with fail
  go_region
  go_wp2_with fail
  go_ret
  exact ⟨rfl, rfl⟩
set_option maxHeartbeats 2000000 in
theorem take_or2 (g b o m cp : Nat) (hm : 0 < m) (hcp : m ≤ cp) (hl : m ≤ 140737488355328) (w : World) (d0 : w.cell? ⟨b, o, none⟩ = some (.int .i64 2)) (n : Nat) (hlt : n < 1024) (c2 : w.cell? ⟨g, 2, none⟩ = some (.int .u16 (n : Int))) (f2 : w.frozen? ⟨g, 2, none⟩ = false) :
    Calls Try.prog 29 #[.pointer (some ⟨g, 0, none⟩), .slice (some ⟨b, o, none⟩) m cp] w fun e w' => e = .returned (.int .i64 1) ∧ w' = (w.setCell ⟨g, 2, none⟩ (.int .u16 (bits .or .u16 (n : Int) 4))).drew := by
  go_enter Try.func29, Try.ntmps29
  go_wp2_with fail
  go_region
  go_wp2_with fail
  go_ret
  exact ⟨rfl, rfl⟩
set_option maxHeartbeats 2000000 in
theorem take_or3 (g b o m cp : Nat) (hm : 0 < m) (hcp : m ≤ cp) (hl : m ≤ 140737488355328) (w : World) (d0 : w.cell? ⟨b, o, none⟩ = some (.int .i64 3)) (n : Nat) (hlt : n < 1024) (c2 : w.cell? ⟨g, 2, none⟩ = some (.int .u16 (n : Int))) (f2 : w.frozen? ⟨g, 2, none⟩ = false) :
    Calls Try.prog 29 #[.pointer (some ⟨g, 0, none⟩), .slice (some ⟨b, o, none⟩) m cp] w fun e w' => e = .returned (.int .i64 1) ∧ w' = (w.setCell ⟨g, 2, none⟩ (.int .u16 (bits .or .u16 (n : Int) 8))).drew := by
  go_enter Try.func29, Try.ntmps29
  go_wp2_with fail
  go_region
  go_wp2_with fail
  go_ret
  exact ⟨rfl, rfl⟩
set_option maxHeartbeats 2000000 in
theorem take_or4 (g b o m cp : Nat) (hm : 0 < m) (hcp : m ≤ cp) (hl : m ≤ 140737488355328) (w : World) (d0 : w.cell? ⟨b, o, none⟩ = some (.int .i64 4)) (n : Nat) (hlt : n < 1024) (c2 : w.cell? ⟨g, 2, none⟩ = some (.int .u16 (n : Int))) (f2 : w.frozen? ⟨g, 2, none⟩ = false) :
    Calls Try.prog 29 #[.pointer (some ⟨g, 0, none⟩), .slice (some ⟨b, o, none⟩) m cp] w fun e w' => e = .returned (.int .i64 1) ∧ w' = (w.setCell ⟨g, 2, none⟩ (.int .u16 (bits .or .u16 (n : Int) 16))).drew := by
  go_enter Try.func29, Try.ntmps29
  go_wp2_with fail
  go_region
  go_wp2_with fail
  go_ret
  exact ⟨rfl, rfl⟩
set_option maxHeartbeats 2000000 in
theorem take_or5 (g b o m cp : Nat) (hm : 0 < m) (hcp : m ≤ cp) (hl : m ≤ 140737488355328) (w : World) (d0 : w.cell? ⟨b, o, none⟩ = some (.int .i64 5)) (n : Nat) (hlt : n < 1024) (c2 : w.cell? ⟨g, 2, none⟩ = some (.int .u16 (n : Int))) (f2 : w.frozen? ⟨g, 2, none⟩ = false) :
    Calls Try.prog 29 #[.pointer (some ⟨g, 0, none⟩), .slice (some ⟨b, o, none⟩) m cp] w fun e w' => e = .returned (.int .i64 1) ∧ w' = (w.setCell ⟨g, 2, none⟩ (.int .u16 (bits .or .u16 (n : Int) 32))).drew := by
  go_enter Try.func29, Try.ntmps29
  go_wp2_with fail
  go_region
  go_wp2_with fail
  go_ret
  exact ⟨rfl, rfl⟩
set_option maxHeartbeats 2000000 in
theorem take_or7 (g b o m cp : Nat) (hm : 0 < m) (hcp : m ≤ cp) (hl : m ≤ 140737488355328) (w : World) (d0 : w.cell? ⟨b, o, none⟩ = some (.int .i64 7)) (n : Nat) (hlt : n < 1024) (c2 : w.cell? ⟨g, 2, none⟩ = some (.int .u16 (n : Int))) (f2 : w.frozen? ⟨g, 2, none⟩ = false) :
    Calls Try.prog 29 #[.pointer (some ⟨g, 0, none⟩), .slice (some ⟨b, o, none⟩) m cp] w fun e w' => e = .returned (.int .i64 1) ∧ w' = (w.setCell ⟨g, 2, none⟩ (.int .u16 (bits .or .u16 (n : Int) 128))).drew := by
  go_enter Try.func29, Try.ntmps29
  go_wp2_with fail
  go_region
  go_wp2_with fail
  go_ret
  exact ⟨rfl, rfl⟩
set_option maxHeartbeats 2000000 in
theorem take_or8 (g b o m cp : Nat) (hm : 0 < m) (hcp : m ≤ cp) (hl : m ≤ 140737488355328) (w : World) (d0 : w.cell? ⟨b, o, none⟩ = some (.int .i64 8)) (n : Nat) (hlt : n < 1024) (c2 : w.cell? ⟨g, 2, none⟩ = some (.int .u16 (n : Int))) (f2 : w.frozen? ⟨g, 2, none⟩ = false) :
    Calls Try.prog 29 #[.pointer (some ⟨g, 0, none⟩), .slice (some ⟨b, o, none⟩) m cp] w fun e w' => e = .returned (.int .i64 1) ∧ w' = (w.setCell ⟨g, 2, none⟩ (.int .u16 (bits .or .u16 (n : Int) 256))).drew := by
  go_enter Try.func29, Try.ntmps29
  go_wp2_with fail
  go_region
  go_wp2_with fail
  go_ret
  exact ⟨rfl, rfl⟩
set_option maxHeartbeats 2000000 in
theorem take_or9 (g b o m cp : Nat) (hm : 0 < m) (hcp : m ≤ cp) (hl : m ≤ 140737488355328) (w : World) (d0 : w.cell? ⟨b, o, none⟩ = some (.int .i64 9)) (n : Nat) (hlt : n < 1024) (c2 : w.cell? ⟨g, 2, none⟩ = some (.int .u16 (n : Int))) (f2 : w.frozen? ⟨g, 2, none⟩ = false) :
    Calls Try.prog 29 #[.pointer (some ⟨g, 0, none⟩), .slice (some ⟨b, o, none⟩) m cp] w fun e w' => e = .returned (.int .i64 1) ∧ w' = (w.setCell ⟨g, 2, none⟩ (.int .u16 (bits .or .u16 (n : Int) 512))).drew := by
  go_enter Try.func29, Try.ntmps29
  go_wp2_with fail
  go_region
  go_wp2_with fail
  go_ret
  exact ⟨rfl, rfl⟩
set_option maxHeartbeats 2000000 in
theorem take_an3 (g b o m cp : Nat) (hm : 0 < m) (hcp : m ≤ cp) (hl : m ≤ 140737488355328) (w : World) (d0 : w.cell? ⟨b, o, none⟩ = some (.int .i64 23)) (n : Nat) (hlt : n < 1024) (c2 : w.cell? ⟨g, 2, none⟩ = some (.int .u16 (n : Int))) (f2 : w.frozen? ⟨g, 2, none⟩ = false) :
    Calls Try.prog 29 #[.pointer (some ⟨g, 0, none⟩), .slice (some ⟨b, o, none⟩) m cp] w fun e w' => e = .returned (.int .i64 1) ∧ w' = (w.setCell ⟨g, 2, none⟩ (.int .u16 (bits .andNot .u16 (n : Int) 8))).drew := by
  go_enter Try.func29, Try.ntmps29
  go_wp2_with fail
  go_region
  go_wp2_with fail
  go_ret
  exact ⟨rfl, rfl⟩
set_option maxHeartbeats 2000000 in
theorem take_an4 (g b o m cp : Nat) (hm : 0 < m) (hcp : m ≤ cp) (hl : m ≤ 140737488355328) (w : World) (d0 : w.cell? ⟨b, o, none⟩ = some (.int .i64 24)) (n : Nat) (hlt : n < 1024) (c2 : w.cell? ⟨g, 2, none⟩ = some (.int .u16 (n : Int))) (f2 : w.frozen? ⟨g, 2, none⟩ = false) :
    Calls Try.prog 29 #[.pointer (some ⟨g, 0, none⟩), .slice (some ⟨b, o, none⟩) m cp] w fun e w' => e = .returned (.int .i64 1) ∧ w' = (w.setCell ⟨g, 2, none⟩ (.int .u16 (bits .andNot .u16 (n : Int) 16))).drew := by
  go_enter Try.func29, Try.ntmps29
  go_wp2_with fail
  go_region
  go_wp2_with fail
  go_ret
  exact ⟨rfl, rfl⟩
set_option maxHeartbeats 2000000 in
theorem take_an5 (g b o m cp : Nat) (hm : 0 < m) (hcp : m ≤ cp) (hl : m ≤ 140737488355328) (w : World) (d0 : w.cell? ⟨b, o, none⟩ = some (.int .i64 25)) (n : Nat) (hlt : n < 1024) (c2 : w.cell? ⟨g, 2, none⟩ = some (.int .u16 (n : Int))) (f2 : w.frozen? ⟨g, 2, none⟩ = false) :
    Calls Try.prog 29 #[.pointer (some ⟨g, 0, none⟩), .slice (some ⟨b, o, none⟩) m cp] w fun e w' => e = .returned (.int .i64 1) ∧ w' = (w.setCell ⟨g, 2, none⟩ (.int .u16 (bits .andNot .u16 (n : Int) 32))).drew := by
  go_enter Try.func29, Try.ntmps29
  go_wp2_with fail
  go_region
  go_wp2_with fail
  go_ret
  exact ⟨rfl, rfl⟩
set_option maxHeartbeats 2000000 in
theorem take_an7 (g b o m cp : Nat) (hm : 0 < m) (hcp : m ≤ cp) (hl : m ≤ 140737488355328) (w : World) (d0 : w.cell? ⟨b, o, none⟩ = some (.int .i64 27)) (n : Nat) (hlt : n < 1024) (c2 : w.cell? ⟨g, 2, none⟩ = some (.int .u16 (n : Int))) (f2 : w.frozen? ⟨g, 2, none⟩ = false) :
    Calls Try.prog 29 #[.pointer (some ⟨g, 0, none⟩), .slice (some ⟨b, o, none⟩) m cp] w fun e w' => e = .returned (.int .i64 1) ∧ w' = (w.setCell ⟨g, 2, none⟩ (.int .u16 (bits .andNot .u16 (n : Int) 128))).drew := by
  go_enter Try.func29, Try.ntmps29
  go_wp2_with fail
  go_region
  go_wp2_with fail
  go_ret
  exact ⟨rfl, rfl⟩
set_option maxHeartbeats 2000000 in
theorem take_an8 (g b o m cp : Nat) (hm : 0 < m) (hcp : m ≤ cp) (hl : m ≤ 140737488355328) (w : World) (d0 : w.cell? ⟨b, o, none⟩ = some (.int .i64 28)) (n : Nat) (hlt : n < 1024) (c2 : w.cell? ⟨g, 2, none⟩ = some (.int .u16 (n : Int))) (f2 : w.frozen? ⟨g, 2, none⟩ = false) :
    Calls Try.prog 29 #[.pointer (some ⟨g, 0, none⟩), .slice (some ⟨b, o, none⟩) m cp] w fun e w' => e = .returned (.int .i64 1) ∧ w' = (w.setCell ⟨g, 2, none⟩ (.int .u16 (bits .andNot .u16 (n : Int) 256))).drew := by
  go_enter Try.func29, Try.ntmps29
  go_wp2_with fail
  go_region
  go_wp2_with fail
  go_ret
  exact ⟨rfl, rfl⟩
set_option maxHeartbeats 2000000 in
theorem take_an9 (g b o m cp : Nat) (hm : 0 < m) (hcp : m ≤ cp) (hl : m ≤ 140737488355328) (w : World) (d0 : w.cell? ⟨b, o, none⟩ = some (.int .i64 29)) (n : Nat) (hlt : n < 1024) (c2 : w.cell? ⟨g, 2, none⟩ = some (.int .u16 (n : Int))) (f2 : w.frozen? ⟨g, 2, none⟩ = false) :
    Calls Try.prog 29 #[.pointer (some ⟨g, 0, none⟩), .slice (some ⟨b, o, none⟩) m cp] w fun e w' => e = .returned (.int .i64 1) ∧ w' = (w.setCell ⟨g, 2, none⟩ (.int .u16 (bits .andNot .u16 (n : Int) 512))).drew := by
  go_enter Try.func29, Try.ntmps29
  go_wp2_with fail
  go_region
  go_wp2_with fail
  go_ret
  exact ⟨rfl, rfl⟩
set_option maxHeartbeats 2000000 in
theorem take_an22 (g b o m cp : Nat) (hm : 0 < m) (hcp : m ≤ cp) (hl : m ≤ 140737488355328) (w : World) (d0 : w.cell? ⟨b, o, none⟩ = some (.int .i64 22)) (n : Nat) (hlt : n < 1024) (c2 : w.cell? ⟨g, 2, none⟩ = some (.int .u16 (n : Int))) (f2 : w.frozen? ⟨g, 2, none⟩ = false) :
    Calls Try.prog 29 #[.pointer (some ⟨g, 0, none⟩), .slice (some ⟨b, o, none⟩) m cp] w fun e w' => e = .returned (.int .i64 1) ∧ w' = w.setCell ⟨g, 2, none⟩ (.int .u16 (bits .andNot .u16 (n : Int) 6)) := by
  go_enter Try.func29, Try.ntmps29
  go_wp2_with fail
  go_ret
  exact ⟨rfl, rfl⟩
set_option maxHeartbeats 2000000 in
theorem take_no0 (g b o m cp : Nat) (hm : 0 < m) (hcp : m ≤ cp) (hl : m ≤ 140737488355328) (w : World) (d0 : w.cell? ⟨b, o, none⟩ = some (.int .i64 39)) (c : Int) (c2 : w.cell? ⟨g, 0, none⟩ = some (.int .i64 c)) (f2 : w.frozen? ⟨g, 0, none⟩ = false) :
    Calls Try.prog 29 #[.pointer (some ⟨g, 0, none⟩), .slice (some ⟨b, o, none⟩) m cp] w fun e w' => e = .returned (.int .i64 1) ∧ w' = w.setCell ⟨g, 0, none⟩ (.int .i64 (-1)) := by
  go_enter Try.func29, Try.ntmps29
  go_wp2_with fail
  go_ret
  exact ⟨rfl, rfl⟩
set_option maxHeartbeats 2000000 in
theorem take_no1 (g b o m cp : Nat) (hm : 0 < m) (hcp : m ≤ cp) (hl : m ≤ 140737488355328) (w : World) (d0 : w.cell? ⟨b, o, none⟩ = some (.int .i64 49)) (c : Int) (c2 : w.cell? ⟨g, 1, none⟩ = some (.int .i64 c)) (f2 : w.frozen? ⟨g, 1, none⟩ = false) :
    Calls Try.prog 29 #[.pointer (some ⟨g, 0, none⟩), .slice (some ⟨b, o, none⟩) m cp] w fun e w' => e = .returned (.int .i64 1) ∧ w' = w.setCell ⟨g, 1, none⟩ (.int .i64 (-1)) := by
  go_enter Try.func29, Try.ntmps29
  go_wp2_with fail
  go_ret
  exact ⟨rfl, rfl⟩
set_option maxHeartbeats 2000000 in
theorem take_lo0 (g b o m cp : Nat) (hm : 0 < m) (hcp : m ≤ cp) (hl : m ≤ 140737488355328) (w : World) (d0 : w.cell? ⟨b, o, none⟩ = some (.int .i64 38)) (x : Int) (z : Nat) (W : World → Prop) (TL : Box' (Calls Try.prog 43 #[.pointer (some ⟨g, 0, none⟩), .slice (some ⟨b, o, none⟩) m cp] w fun e w' => e = .returned (.int .i64 (z : Int)) ∧ W w')) :
    Calls Try.prog 29 #[.pointer (some ⟨g, 0, none⟩), .slice (some ⟨b, o, none⟩) m cp] w fun e w' => e = .returned (.int .i64 (z : Int)) ∧ W w' := by
  go_enter Try.func29, Try.ntmps29
  go_wp2_with fail
  refine TL.out.mono ?_
  rintro e w1 ⟨rfl, hw1⟩
  go_wp2_with fail
  go_ret
  exact ⟨rfl, hw1⟩
set_option maxHeartbeats 2000000 in
theorem take_lo1 (g b o m cp : Nat) (hm : 0 < m) (hcp : m ≤ cp) (hl : m ≤ 140737488355328) (w : World) (d0 : w.cell? ⟨b, o, none⟩ = some (.int .i64 48)) (x : Int) (z : Nat) (W : World → Prop) (TL : Box' (Calls Try.prog 43 #[.pointer (some ⟨g, 1, none⟩), .slice (some ⟨b, o, none⟩) m cp] w fun e w' => e = .returned (.int .i64 (z : Int)) ∧ W w')) :
    Calls Try.prog 29 #[.pointer (some ⟨g, 0, none⟩), .slice (some ⟨b, o, none⟩) m cp] w fun e w' => e = .returned (.int .i64 (z : Int)) ∧ W w' := by
  go_enter Try.func29, Try.ntmps29
  go_wp2_with fail
  refine TL.out.mono ?_
  rintro e w1 ⟨rfl, hw1⟩
  go_wp2_with fail
  go_ret
  exact ⟨rfl, hw1⟩
set_option maxHeartbeats 2000000 in
theorem take_sh (g b o m cp : Nat) (hm : 0 < m) (hcp : m ≤ cp) (hl : m ≤ 140737488355328) (w : World) (p : Int) (d0 : w.cell? ⟨b, o, none⟩ = some (.int .i64 p)) (n0 : ¬ p = 0) (n1 : ¬ p = 1) (n2 : ¬ p = 2) (n3 : ¬ p = 3) (n4 : ¬ p = 4) (n5 : ¬ p = 5) (n7 : ¬ p = 7) (n8 : ¬ p = 8) (n9 : ¬ p = 9) (n22 : ¬ p = 22) (n23 : ¬ p = 23) (n24 : ¬ p = 24) (n25 : ¬ p = 25) (n27 : ¬ p = 27) (n28 : ¬ p = 28) (n29 : ¬ p = 29) (n38 : ¬ p = 38) (n48 : ¬ p = 48) (n39 : ¬ p = 39) (n49 : ¬ p = 49) (W : World → Prop) (TL : Box' (Calls Try.prog 44 #[.pointer (some ⟨g, 0, none⟩), .int .i64 p] w fun e w' => e = .returned (.tuple #[]) ∧ W w')) :
    Calls Try.prog 29 #[.pointer (some ⟨g, 0, none⟩), .slice (some ⟨b, o, none⟩) m cp] w fun e w' => e = .returned (.int .i64 1) ∧ W w' := by
  go_enter Try.func29, Try.ntmps29
  go_wp2_with fail
  refine TL.out.mono ?_
  rintro e w1 ⟨rfl, hw1⟩
  go_wp2_with fail
  go_ret
  exact ⟨rfl, hw1⟩
set_option maxHeartbeats 2000000 in
theorem take_zero (g b o m cp : Nat) (hm : 0 < m) (hcp : m ≤ cp) (hl : m ≤ 140737488355328) (w : World) (d0 : w.cell? ⟨b, o, none⟩ = some (.int .i64 0)) (hr : Room w g 49 3) :
    Calls Try.prog 29 #[.pointer (some ⟨g, 0, none⟩), .slice (some ⟨b, o, none⟩) m cp] w fun e w' => e = .returned (.int .i64 1) ∧ Row w' g 49 (lA pl) ∧ Below g w w' := by
  have PL := Box'.mk (plain_any w)
  have HR := Box'.mk hr
  have hg : g < w.heap.size := by obtain ⟨c, h, _⟩ := hr; exact h.lt
  have S49 := Box'.mk s49
  have O3 : Box' ((lA pl).all (·.oneCell') = true) := ⟨one3 _ _ _⟩
  clear hr
  go_enter Try.func29, Try.ntmps29
  go_wp2_with fail
  refine PL.out.mono ?_
  rintro e w1 ⟨rfl, hb1⟩
  have LO := Box'.mk (lookOf_any pl w1)
  have B1 := Box'.mk hb1
  clear PL hb1
  go_wp2_with fail
  refine LO.out.mono ?_
  rintro e w2 ⟨rfl, hb2⟩
  have R2 := Box'.mk ((HR.out.below B1.out hg).below hb2 (Nat.lt_of_lt_of_le hg B1.out.size))
  have B2 : Box' (Below g w w2) := ⟨(B1.out.mono (Nat.le_of_lt hg)).trans (hb2.mono (Nat.le_trans (Nat.le_of_lt hg) B1.out.size))⟩
  clear LO B1 HR hb2
  go_wp2_with (first
    | (refine wpList_store_row rfl 49 (.tmp 18) (.tmp 17) rfl g rfl (lA pl) rfl 49 3 R2.out S49.out rfl O3.out ?_))
  go_ret
  exact ⟨rfl, R2.out.setRow _, below_setRow B2.out (Nat.le_refl _) _⟩

theorem take_any (s : St) (g : Nat) (v : Value) (l : List Int) (h0 : l ≠ []) (hl : l.length ≤ 140737488355328) (w : World) (h : Is g w v l) (hr : Row w g 49 (lA s)) :
    Calls Try.prog 29 #[.pointer (some ⟨g, 0, none⟩), v] w fun e w' => e = .returned (.int .i64 ((stp s l).2 : Int)) ∧ Row w' g 49 (lA (stp s l).1) ∧ Below g w w' := by
  have TL0 := takeLong_any s.fg g 0 v l h0 hl w h (hr.cell 0) (hr.frozen 0)
  have TL1 := takeLong_any s.bg g 1 v l h0 hl w h (hr.cell 1) (hr.frozen 1)
  obtain ⟨a, cp, rfl, hcp, h3⟩ := h
  rcases h3 with h3 | ⟨b, o, rfl, hb, hcl⟩
  · exact absurd h3 h0
  have hn : 0 < l.length := List.length_pos_iff.2 h0
  have d0 := hcl 0 hn
  rw [Nat.add_zero] at d0
  have BS : ∀ k v, Below g w (w.setCell ⟨g, k, none⟩ v) := fun k v => (Below.refl g w).setCell (Nat.le_refl _) v
  have c2 : w.cell? ⟨g, 2, none⟩ = some (.int .u16 (flg s : Int)) := hr.cell 2
  have LT := flg_lt s
  obtain ⟨p, hp⟩ : ∃ p, l.getD 0 0 = p := ⟨_, rfl⟩
  rw [hp] at d0
  by_cases n0 : p = 0
  · subst n0
    have e : stp s l = (pl, 1) := by simp only [stp, hp]; rfl
    rw [e]
    exact take_zero g b o l.length cp hn hcp hl w d0 (hr.room rfl)
  by_cases n1 : p = 1
  · subst n1
    have e : stp s l = (sf s 1 true, 1) := by simp only [stp, hp]; rfl
    rw [e]
    refine (take_or1 g b o l.length cp hn hcp hl w d0 (flg s) LT c2 (hr.frozen 2)).mono ?_
    rintro e w' ⟨rfl, rfl⟩
    refine ⟨rfl, ?_, (BS _ _).drew⟩
    have := (hr.setCell 2 (.int .u16 (bits .or .u16 (flg s : Int) 2))).drew
    rw [show bits .or .u16 (flg s : Int) 2 = (flg (sf s 1 true) : Int) from orb1 _ _ _ _ _ _ _ _] at this ⊢
    exact this
  by_cases n2 : p = 2
  · subst n2
    have e : stp s l = (sf s 2 true, 1) := by simp only [stp, hp]; rfl
    rw [e]
    refine (take_or2 g b o l.length cp hn hcp hl w d0 (flg s) LT c2 (hr.frozen 2)).mono ?_
    rintro e w' ⟨rfl, rfl⟩
    refine ⟨rfl, ?_, (BS _ _).drew⟩
    have := (hr.setCell 2 (.int .u16 (bits .or .u16 (flg s : Int) 4))).drew
    rw [show bits .or .u16 (flg s : Int) 4 = (flg (sf s 2 true) : Int) from orb2 _ _ _ _ _ _ _ _] at this ⊢
    exact this
  by_cases n3 : p = 3
  · subst n3
    have e : stp s l = (sf s 3 true, 1) := by simp only [stp, hp]; rfl
    rw [e]
    refine (take_or3 g b o l.length cp hn hcp hl w d0 (flg s) LT c2 (hr.frozen 2)).mono ?_
    rintro e w' ⟨rfl, rfl⟩
    refine ⟨rfl, ?_, (BS _ _).drew⟩
    have := (hr.setCell 2 (.int .u16 (bits .or .u16 (flg s : Int) 8))).drew
    rw [show bits .or .u16 (flg s : Int) 8 = (flg (sf s 3 true) : Int) from orb3 _ _ _ _ _ _ _ _] at this ⊢
    exact this
  by_cases n4 : p = 4
  · subst n4
    have e : stp s l = (sf s 4 true, 1) := by simp only [stp, hp]; rfl
    rw [e]
    refine (take_or4 g b o l.length cp hn hcp hl w d0 (flg s) LT c2 (hr.frozen 2)).mono ?_
    rintro e w' ⟨rfl, rfl⟩
    refine ⟨rfl, ?_, (BS _ _).drew⟩
    have := (hr.setCell 2 (.int .u16 (bits .or .u16 (flg s : Int) 16))).drew
    rw [show bits .or .u16 (flg s : Int) 16 = (flg (sf s 4 true) : Int) from orb4 _ _ _ _ _ _ _ _] at this ⊢
    exact this
  by_cases n5 : p = 5
  · subst n5
    have e : stp s l = (sf s 5 true, 1) := by simp only [stp, hp]; rfl
    rw [e]
    refine (take_or5 g b o l.length cp hn hcp hl w d0 (flg s) LT c2 (hr.frozen 2)).mono ?_
    rintro e w' ⟨rfl, rfl⟩
    refine ⟨rfl, ?_, (BS _ _).drew⟩
    have := (hr.setCell 2 (.int .u16 (bits .or .u16 (flg s : Int) 32))).drew
    rw [show bits .or .u16 (flg s : Int) 32 = (flg (sf s 5 true) : Int) from orb5 _ _ _ _ _ _ _ _] at this ⊢
    exact this
  by_cases n7 : p = 7
  · subst n7
    have e : stp s l = (sf s 7 true, 1) := by simp only [stp, hp]; rfl
    rw [e]
    refine (take_or7 g b o l.length cp hn hcp hl w d0 (flg s) LT c2 (hr.frozen 2)).mono ?_
    rintro e w' ⟨rfl, rfl⟩
    refine ⟨rfl, ?_, (BS _ _).drew⟩
    have := (hr.setCell 2 (.int .u16 (bits .or .u16 (flg s : Int) 128))).drew
    rw [show bits .or .u16 (flg s : Int) 128 = (flg (sf s 7 true) : Int) from orb7 _ _ _ _ _ _ _ _] at this ⊢
    exact this
  by_cases n8 : p = 8
  · subst n8
    have e : stp s l = (sf s 8 true, 1) := by simp only [stp, hp]; rfl
    rw [e]
    refine (take_or8 g b o l.length cp hn hcp hl w d0 (flg s) LT c2 (hr.frozen 2)).mono ?_
    rintro e w' ⟨rfl, rfl⟩
    refine ⟨rfl, ?_, (BS _ _).drew⟩
    have := (hr.setCell 2 (.int .u16 (bits .or .u16 (flg s : Int) 256))).drew
    rw [show bits .or .u16 (flg s : Int) 256 = (flg (sf s 8 true) : Int) from orb8 _ _ _ _ _ _ _ _] at this ⊢
    exact this
  by_cases n9 : p = 9
  · subst n9
    have e : stp s l = (sf s 9 true, 1) := by simp only [stp, hp]; rfl
    rw [e]
    refine (take_or9 g b o l.length cp hn hcp hl w d0 (flg s) LT c2 (hr.frozen 2)).mono ?_
    rintro e w' ⟨rfl, rfl⟩
    refine ⟨rfl, ?_, (BS _ _).drew⟩
    have := (hr.setCell 2 (.int .u16 (bits .or .u16 (flg s : Int) 512))).drew
    rw [show bits .or .u16 (flg s : Int) 512 = (flg (sf s 9 true) : Int) from orb9 _ _ _ _ _ _ _ _] at this ⊢
    exact this
  by_cases n22 : p = 22
  · subst n22
    have e : stp s l = ({ s with b1 := false, b2 := false }, 1) := by simp only [stp, hp]; rfl
    rw [e]
    refine (take_an22 g b o l.length cp hn hcp hl w d0 (flg s) LT c2 (hr.frozen 2)).mono ?_
    rintro e w' ⟨rfl, rfl⟩
    refine ⟨rfl, ?_, BS _ _⟩
    have := hr.setCell 2 (.int .u16 (bits .andNot .u16 (flg s : Int) 6))
    rw [show bits .andNot .u16 (flg s : Int) 6 = (flg { s with b1 := false, b2 := false } : Int) from anb6 _ _ _ _ _ _ _ _] at this ⊢
    exact this
  by_cases n23 : p = 23
  · subst n23
    have e : stp s l = (sf s 3 false, 1) := by simp only [stp, hp]; rfl
    rw [e]
    refine (take_an3 g b o l.length cp hn hcp hl w d0 (flg s) LT c2 (hr.frozen 2)).mono ?_
    rintro e w' ⟨rfl, rfl⟩
    refine ⟨rfl, ?_, (BS _ _).drew⟩
    have := (hr.setCell 2 (.int .u16 (bits .andNot .u16 (flg s : Int) 8))).drew
    rw [show bits .andNot .u16 (flg s : Int) 8 = (flg (sf s 3 false) : Int) from anb3 _ _ _ _ _ _ _ _] at this ⊢
    exact this
  by_cases n24 : p = 24
  · subst n24
    have e : stp s l = (sf s 4 false, 1) := by simp only [stp, hp]; rfl
    rw [e]
    refine (take_an4 g b o l.length cp hn hcp hl w d0 (flg s) LT c2 (hr.frozen 2)).mono ?_
    rintro e w' ⟨rfl, rfl⟩
    refine ⟨rfl, ?_, (BS _ _).drew⟩
    have := (hr.setCell 2 (.int .u16 (bits .andNot .u16 (flg s : Int) 16))).drew
    rw [show bits .andNot .u16 (flg s : Int) 16 = (flg (sf s 4 false) : Int) from anb4 _ _ _ _ _ _ _ _] at this ⊢
    exact this
  by_cases n25 : p = 25
  · subst n25
    have e : stp s l = (sf s 5 false, 1) := by simp only [stp, hp]; rfl
    rw [e]
    refine (take_an5 g b o l.length cp hn hcp hl w d0 (flg s) LT c2 (hr.frozen 2)).mono ?_
    rintro e w' ⟨rfl, rfl⟩
    refine ⟨rfl, ?_, (BS _ _).drew⟩
    have := (hr.setCell 2 (.int .u16 (bits .andNot .u16 (flg s : Int) 32))).drew
    rw [show bits .andNot .u16 (flg s : Int) 32 = (flg (sf s 5 false) : Int) from anb5 _ _ _ _ _ _ _ _] at this ⊢
    exact this
  by_cases n27 : p = 27
  · subst n27
    have e : stp s l = (sf s 7 false, 1) := by simp only [stp, hp]; rfl
    rw [e]
    refine (take_an7 g b o l.length cp hn hcp hl w d0 (flg s) LT c2 (hr.frozen 2)).mono ?_
    rintro e w' ⟨rfl, rfl⟩
    refine ⟨rfl, ?_, (BS _ _).drew⟩
    have := (hr.setCell 2 (.int .u16 (bits .andNot .u16 (flg s : Int) 128))).drew
    rw [show bits .andNot .u16 (flg s : Int) 128 = (flg (sf s 7 false) : Int) from anb7 _ _ _ _ _ _ _ _] at this ⊢
    exact this
  by_cases n28 : p = 28
  · subst n28
    have e : stp s l = (sf s 8 false, 1) := by simp only [stp, hp]; rfl
    rw [e]
    refine (take_an8 g b o l.length cp hn hcp hl w d0 (flg s) LT c2 (hr.frozen 2)).mono ?_
    rintro e w' ⟨rfl, rfl⟩
    refine ⟨rfl, ?_, (BS _ _).drew⟩
    have := (hr.setCell 2 (.int .u16 (bits .andNot .u16 (flg s : Int) 256))).drew
    rw [show bits .andNot .u16 (flg s : Int) 256 = (flg (sf s 8 false) : Int) from anb8 _ _ _ _ _ _ _ _] at this ⊢
    exact this
  by_cases n29 : p = 29
  · subst n29
    have e : stp s l = (sf s 9 false, 1) := by simp only [stp, hp]; rfl
    rw [e]
    refine (take_an9 g b o l.length cp hn hcp hl w d0 (flg s) LT c2 (hr.frozen 2)).mono ?_
    rintro e w' ⟨rfl, rfl⟩
    refine ⟨rfl, ?_, (BS _ _).drew⟩
    have := (hr.setCell 2 (.int .u16 (bits .andNot .u16 (flg s : Int) 512))).drew
    rw [show bits .andNot .u16 (flg s : Int) 512 = (flg (sf s 9 false) : Int) from anb9 _ _ _ _ _ _ _ _] at this ⊢
    exact this
  by_cases n38 : p = 38
  · subst n38
    have e : stp s l = ({ s with fg := (lng s.fg l).1 }, (lng s.fg l).2) := by simp only [stp, hp]; rfl
    rw [e]
    refine (take_lo0 g b o l.length cp hn hcp hl w d0 0 (lng s.fg l).2 (fun w' => (w' = w ∧ (lng s.fg l).1 = s.fg) ∨ w' = w.setCell ⟨g, 0, none⟩ (.int .i64 (lng s.fg l).1)) ⟨TL0⟩).mono ?_
    rintro e w' ⟨rfl, hw⟩
    refine ⟨rfl, ?_⟩
    rcases hw with ⟨rfl, e2⟩ | rfl
    · simp only [e2]
      exact ⟨hr, Below.refl _ _⟩
    · exact ⟨hr.setCell 0 _, BS _ _⟩
  by_cases n48 : p = 48
  · subst n48
    have e : stp s l = ({ s with bg := (lng s.bg l).1 }, (lng s.bg l).2) := by simp only [stp, hp]; rfl
    rw [e]
    refine (take_lo1 g b o l.length cp hn hcp hl w d0 0 (lng s.bg l).2 (fun w' => (w' = w ∧ (lng s.bg l).1 = s.bg) ∨ w' = w.setCell ⟨g, 1, none⟩ (.int .i64 (lng s.bg l).1)) ⟨TL1⟩).mono ?_
    rintro e w' ⟨rfl, hw⟩
    refine ⟨rfl, ?_⟩
    rcases hw with ⟨rfl, e2⟩ | rfl
    · simp only [e2]
      exact ⟨hr, Below.refl _ _⟩
    · exact ⟨hr.setCell 1 _, BS _ _⟩
  by_cases n39 : p = 39
  · subst n39
    have e : stp s l = ({ s with fg := -1 }, 1) := by simp only [stp, hp]; rfl
    rw [e]
    refine (take_no0 g b o l.length cp hn hcp hl w d0 s.fg (hr.cell 0) (hr.frozen 0)).mono ?_
    rintro e w' ⟨rfl, rfl⟩
    exact ⟨rfl, hr.setCell 0 _, BS _ _⟩
  by_cases n49 : p = 49
  · subst n49
    have e : stp s l = ({ s with bg := -1 }, 1) := by simp only [stp, hp]; rfl
    rw [e]
    refine (take_no1 g b o l.length cp hn hcp hl w d0 s.bg (hr.cell 1) (hr.frozen 1)).mono ?_
    rintro e w' ⟨rfl, rfl⟩
    exact ⟨rfl, hr.setCell 1 _, BS _ _⟩
  have e : stp s l = (sht s p, 1) := by
    simp only [stp, hp]
    by_cases h6 : p = 6
    · subst h6; rfl
    by_cases h26 : p = 26
    · subst h26; rfl
    rw [if_neg n0, if_neg (by omega), if_neg n22, if_neg (by omega), if_neg n38, if_neg n48, if_neg n39, if_neg n49]
  rw [e]
  exact (take_sh g b o l.length cp hn hcp hl w p d0 n0 n1 n2 n3 n4 n5 n7 n8 n9 n22 n23 n24 n25 n27 n28 n29 n38 n48 n39 n49 (fun w' => Row w' g 49 (lA (sht s p)) ∧ Below g w w') ⟨takeShort_any s g p w hr⟩).mono fun e w' ⟨h1, h2⟩ => ⟨h1, h2⟩
end Go.Proofs.Ytnlladjkajmpoaa
