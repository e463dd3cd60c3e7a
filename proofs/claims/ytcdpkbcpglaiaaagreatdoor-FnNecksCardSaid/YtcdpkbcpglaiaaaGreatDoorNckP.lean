/-
  Necks: angles, shims and bridges that are just enough, by the program.
-/
import Derived.Test.YtcdpkbcpglaiaaaGreatDoorNckM
import Derived.Test.YtcdpkbcpglaiaaaGreatDoorNckA
import Derived.Test.YtcdpkbcpglaiaaaGreatDoorNckV
import Derived.Deep.RegionHeld3
namespace Go.Proofs.YtcdpkbcpglaiaaaGreatDoor
open Go.ChangeShapes Go.WideShapes Go.ChangeAt Go.RowKit Go.Deep
set_option linter.unusedVariables false
set_option linter.unusedSimpArgs false
set_option maxRecDepth 1000000
set_option maxHeartbeats 1600000 in
theorem ag1_any (a : Int) (b : Int) (c : Int) (d : Int) (z p : Int) (hb : 100 ≤ b ∧ b ≤ 10000) (hc : 0 ≤ c ∧ c ≤ 500) (hp : 0 ≤ p ∧ p ≤ 300) (bx kz : Nat) (wr : World) (hat2 : NckAt wr bx 0 ⟨a, b, c, d⟩) (hzz : wr.cell? ⟨kz, 0, none⟩ = some (.int .i64 z)) :
    Calls Tryz.prog 25 #[.int .i64 p, .pointer (some ⟨bx, 0, none⟩), .pointer (some ⟨kz, 0, none⟩)] wr fun e w' => e = .returned (.bool (decide (z ≤ prjV b c p))) ∧ Below wr.heap.size wr w' := by
  have hxl : bx < wr.heap.size := World.block_lt_of_cell? wr _ hat2.1
  have hzl : kz < wr.heap.size := World.block_lt_of_cell? wr _ hzz
  have cW := Lib.hid (fun W => withAngle_any a b c d p W)
  have cH := Lib.hid (fun W => projection_any a b c p hb hc ⟨hp.1, by omega⟩ W)
  obtain ⟨q, hq⟩ : ∃ q, q = prjV b c p := ⟨_, rfl⟩
  rw [← hq] at cH ⊢
  clear hq
  have keep : ∀ W1 W2, (((W1.cell? ⟨bx, 0, none⟩ = some (.int .i64 a) ∧ W1.cell? ⟨bx, 1, none⟩ = some (.int .i64 b) ∧ W1.cell? ⟨bx, 2, none⟩ = some (.int .i64 c) ∧ W1.cell? ⟨bx, 3, none⟩ = some (.int .i64 d)) ∧ W1.cell? ⟨kz, 0, none⟩ = some (.int .i64 z)) ∧ Below wr.heap.size wr W1) → Below W1.heap.size W1 W2 → (((W2.cell? ⟨bx, 0, none⟩ = some (.int .i64 a) ∧ W2.cell? ⟨bx, 1, none⟩ = some (.int .i64 b) ∧ W2.cell? ⟨bx, 2, none⟩ = some (.int .i64 c) ∧ W2.cell? ⟨bx, 3, none⟩ = some (.int .i64 d)) ∧ W2.cell? ⟨kz, 0, none⟩ = some (.int .i64 z)) ∧ Below wr.heap.size wr W2) := fun W1 W2 h1 h2 => by
    obtain ⟨⟨p0, p1⟩, hb⟩ := h1
    have q0 := NckAt.below (x := ⟨a, b, c, d⟩) (o := 0) p0 (Nat.lt_of_lt_of_le hxl hb.size) h2
    have q1 := (h2.cell (p := ⟨kz, 0, none⟩) (Nat.lt_of_lt_of_le hzl hb.size)).trans p1
    exact ⟨⟨q0, q1⟩, hb.trans (h2.mono hb.size)⟩
  have keepH := Lib.hid keep
  clear keep
  have hS : (((wr.cell? ⟨bx, 0, none⟩ = some (.int .i64 a) ∧ wr.cell? ⟨bx, 1, none⟩ = some (.int .i64 b) ∧ wr.cell? ⟨bx, 2, none⟩ = some (.int .i64 c) ∧ wr.cell? ⟨bx, 3, none⟩ = some (.int .i64 d)) ∧ wr.cell? ⟨kz, 0, none⟩ = some (.int .i64 z)) ∧ Below wr.heap.size wr wr) := ⟨⟨hat2, hzz⟩, Below.refl _ _⟩
  clear hat2 hzz
  go_enter Tryz.func25, Tryz.ntmps25
  go_wp2
  go_region_held3 (fun w' => (((w'.cell? ⟨bx, 0, none⟩ = some (.int .i64 a) ∧ w'.cell? ⟨bx, 1, none⟩ = some (.int .i64 b) ∧ w'.cell? ⟨bx, 2, none⟩ = some (.int .i64 c) ∧ w'.cell? ⟨bx, 3, none⟩ = some (.int .i64 d)) ∧ w'.cell? ⟨kz, 0, none⟩ = some (.int .i64 z)) ∧ Below wr.heap.size wr w'))
    (first | exact ⟨hS.1, belowN hS.2 1⟩ | exact keepH.out _ _ (by assumption) (by assumption) | assumption)
    (first | (go_at_call 26; (with_reducible refine (cW.out _).mono ?_); rintro e w' ⟨rfl, hbel⟩) | (go_at_call 27; (with_reducible refine (cH.out _).mono ?_); rintro e w' ⟨rfl, hbel⟩))
  rename_i hHeld
  go_wp2
  go_ret
  exact ⟨ret_bool rfl, hHeld.2⟩
set_option maxHeartbeats 1600000 in
theorem sh1_any (a : Int) (b : Int) (c : Int) (d : Int) (z y p : Int) (hb : 100 ≤ b ∧ b ≤ 10000) (hc : 0 ≤ c ∧ c ≤ 500) (hd : 0 ≤ d ∧ d ≤ 300) (hp : 0 ≤ p ∧ p ≤ 200) (hy : 1 ≤ y ∧ y ≤ 1000) (bx kz ky : Nat) (wr : World) (hat2 : NckAt wr bx 0 ⟨a, b, c, d⟩) (hzz : wr.cell? ⟨kz, 0, none⟩ = some (.int .i64 z)) (hyz : wr.cell? ⟨ky, 0, none⟩ = some (.int .i64 y)) :
    Calls Tryz.prog 31 #[.int .i64 p, .pointer (some ⟨bx, 0, none⟩), .pointer (some ⟨ky, 0, none⟩), .pointer (some ⟨kz, 0, none⟩)] wr fun e w' => e = .returned (.bool (decide (z ≤ prjV b c (shmV d p y)))) ∧ Below wr.heap.size wr w' := by
  have hxl : bx < wr.heap.size := World.block_lt_of_cell? wr _ hat2.1
  have hzl : kz < wr.heap.size := World.block_lt_of_cell? wr _ hzz
  have hyl : ky < wr.heap.size := World.block_lt_of_cell? wr _ hyz
  have cW0 := fun W => withShim_any a b c d p y hd hp hy W
  have hsb := shm_bd hd hp hy
  obtain ⟨m, hm⟩ : ∃ m, m = shmV d p y := ⟨_, rfl⟩
  rw [← hm] at cW0 hsb ⊢
  have cW := Lib.hid cW0
  have cH := Lib.hid (fun W => projection_any a b c m hb hc ⟨hsb.2.2.1, by omega⟩ W)
  obtain ⟨q, hq⟩ : ∃ q, q = prjV b c m := ⟨_, rfl⟩
  rw [← hq] at cH ⊢
  clear hq hm cW0 hsb
  have keep : ∀ W1 W2, (((W1.cell? ⟨bx, 0, none⟩ = some (.int .i64 a) ∧ W1.cell? ⟨bx, 1, none⟩ = some (.int .i64 b) ∧ W1.cell? ⟨bx, 2, none⟩ = some (.int .i64 c) ∧ W1.cell? ⟨bx, 3, none⟩ = some (.int .i64 d)) ∧ W1.cell? ⟨kz, 0, none⟩ = some (.int .i64 z) ∧ W1.cell? ⟨ky, 0, none⟩ = some (.int .i64 y)) ∧ Below wr.heap.size wr W1) → Below W1.heap.size W1 W2 → (((W2.cell? ⟨bx, 0, none⟩ = some (.int .i64 a) ∧ W2.cell? ⟨bx, 1, none⟩ = some (.int .i64 b) ∧ W2.cell? ⟨bx, 2, none⟩ = some (.int .i64 c) ∧ W2.cell? ⟨bx, 3, none⟩ = some (.int .i64 d)) ∧ W2.cell? ⟨kz, 0, none⟩ = some (.int .i64 z) ∧ W2.cell? ⟨ky, 0, none⟩ = some (.int .i64 y)) ∧ Below wr.heap.size wr W2) := fun W1 W2 h1 h2 => by
    obtain ⟨⟨p0, p1, p2⟩, hb⟩ := h1
    have q0 := NckAt.below (x := ⟨a, b, c, d⟩) (o := 0) p0 (Nat.lt_of_lt_of_le hxl hb.size) h2
    have q1 := (h2.cell (p := ⟨kz, 0, none⟩) (Nat.lt_of_lt_of_le hzl hb.size)).trans p1
    have q2 := (h2.cell (p := ⟨ky, 0, none⟩) (Nat.lt_of_lt_of_le hyl hb.size)).trans p2
    exact ⟨⟨q0, q1, q2⟩, hb.trans (h2.mono hb.size)⟩
  have keepH := Lib.hid keep
  clear keep
  have hS : (((wr.cell? ⟨bx, 0, none⟩ = some (.int .i64 a) ∧ wr.cell? ⟨bx, 1, none⟩ = some (.int .i64 b) ∧ wr.cell? ⟨bx, 2, none⟩ = some (.int .i64 c) ∧ wr.cell? ⟨bx, 3, none⟩ = some (.int .i64 d)) ∧ wr.cell? ⟨kz, 0, none⟩ = some (.int .i64 z) ∧ wr.cell? ⟨ky, 0, none⟩ = some (.int .i64 y)) ∧ Below wr.heap.size wr wr) := ⟨⟨hat2, hzz, hyz⟩, Below.refl _ _⟩
  clear hat2 hzz hyz
  go_enter Tryz.func31, Tryz.ntmps31
  go_wp2
  go_region_held3 (fun w' => (((w'.cell? ⟨bx, 0, none⟩ = some (.int .i64 a) ∧ w'.cell? ⟨bx, 1, none⟩ = some (.int .i64 b) ∧ w'.cell? ⟨bx, 2, none⟩ = some (.int .i64 c) ∧ w'.cell? ⟨bx, 3, none⟩ = some (.int .i64 d)) ∧ w'.cell? ⟨kz, 0, none⟩ = some (.int .i64 z) ∧ w'.cell? ⟨ky, 0, none⟩ = some (.int .i64 y)) ∧ Below wr.heap.size wr w'))
    (first | exact ⟨hS.1, belowN hS.2 1⟩ | exact keepH.out _ _ (by assumption) (by assumption) | assumption)
    (first | (go_at_call 32; (with_reducible refine (cW.out _).mono ?_); rintro e w' ⟨rfl, hbel⟩) | (go_at_call 27; (with_reducible refine (cH.out _).mono ?_); rintro e w' ⟨rfl, hbel⟩))
  rename_i hHeld
  go_wp2
  go_ret
  exact ⟨ret_bool rfl, hHeld.2⟩
set_option maxHeartbeats 1600000 in
theorem br1_any (a : Int) (b : Int) (c : Int) (d : Int) (z p : Int) (hb : 100 ≤ b ∧ b ≤ 10000) (hc : 0 ≤ c ∧ c ≤ 500) (hd : 0 ≤ d ∧ d ≤ 300) (hp : 0 ≤ p ∧ p ≤ 2000) (bx kz : Nat) (wr : World) (hat2 : NckAt wr bx 0 ⟨a, b, c, d⟩) (hzz : wr.cell? ⟨kz, 0, none⟩ = some (.int .i64 z)) :
    Calls Tryz.prog 33 #[.int .i64 p, .pointer (some ⟨bx, 0, none⟩), .pointer (some ⟨kz, 0, none⟩)] wr fun e w' => e = .returned (.bool (decide (z ≤ p - prjV b c d))) ∧ Below wr.heap.size wr w' := by
  have hxl : bx < wr.heap.size := World.block_lt_of_cell? wr _ hat2.1
  have hzl : kz < wr.heap.size := World.block_lt_of_cell? wr _ hzz
  have cH := Lib.hid (fun W => projection_any a b c d hb hc ⟨hd.1, by omega⟩ W)
  have hqb := prj_bd hb hc (d := d) ⟨hd.1, by omega⟩
  obtain ⟨q, hq⟩ : ∃ q, q = prjV b c d := ⟨_, rfl⟩
  rw [← hq] at cH hqb ⊢
  have e1 : IntKind.i64.wrap (p - q) = p - q := IntWalk.i64_in _ (by omega)
  clear hq hqb
  have keep : ∀ W1 W2, (((W1.cell? ⟨bx, 0, none⟩ = some (.int .i64 a) ∧ W1.cell? ⟨bx, 1, none⟩ = some (.int .i64 b) ∧ W1.cell? ⟨bx, 2, none⟩ = some (.int .i64 c) ∧ W1.cell? ⟨bx, 3, none⟩ = some (.int .i64 d)) ∧ W1.cell? ⟨kz, 0, none⟩ = some (.int .i64 z)) ∧ Below wr.heap.size wr W1) → Below W1.heap.size W1 W2 → (((W2.cell? ⟨bx, 0, none⟩ = some (.int .i64 a) ∧ W2.cell? ⟨bx, 1, none⟩ = some (.int .i64 b) ∧ W2.cell? ⟨bx, 2, none⟩ = some (.int .i64 c) ∧ W2.cell? ⟨bx, 3, none⟩ = some (.int .i64 d)) ∧ W2.cell? ⟨kz, 0, none⟩ = some (.int .i64 z)) ∧ Below wr.heap.size wr W2) := fun W1 W2 h1 h2 => by
    obtain ⟨⟨p0, p1⟩, hb⟩ := h1
    have q0 := NckAt.below (x := ⟨a, b, c, d⟩) (o := 0) p0 (Nat.lt_of_lt_of_le hxl hb.size) h2
    have q1 := (h2.cell (p := ⟨kz, 0, none⟩) (Nat.lt_of_lt_of_le hzl hb.size)).trans p1
    exact ⟨⟨q0, q1⟩, hb.trans (h2.mono hb.size)⟩
  have keepH := Lib.hid keep
  clear keep
  have hS : (((wr.cell? ⟨bx, 0, none⟩ = some (.int .i64 a) ∧ wr.cell? ⟨bx, 1, none⟩ = some (.int .i64 b) ∧ wr.cell? ⟨bx, 2, none⟩ = some (.int .i64 c) ∧ wr.cell? ⟨bx, 3, none⟩ = some (.int .i64 d)) ∧ wr.cell? ⟨kz, 0, none⟩ = some (.int .i64 z)) ∧ Below wr.heap.size wr wr) := ⟨⟨hat2, hzz⟩, Below.refl _ _⟩
  clear hat2 hzz
  go_enter Tryz.func33, Tryz.ntmps33
  go_wp2
  go_region_held3 (fun w' => (((w'.cell? ⟨bx, 0, none⟩ = some (.int .i64 a) ∧ w'.cell? ⟨bx, 1, none⟩ = some (.int .i64 b) ∧ w'.cell? ⟨bx, 2, none⟩ = some (.int .i64 c) ∧ w'.cell? ⟨bx, 3, none⟩ = some (.int .i64 d)) ∧ w'.cell? ⟨kz, 0, none⟩ = some (.int .i64 z)) ∧ Below wr.heap.size wr w'))
    (first | exact ⟨hS.1, belowN hS.2 1⟩ | exact keepH.out _ _ (by assumption) (by assumption) | assumption)
    (first | (go_at_call 27; (with_reducible refine (cH.out _).mono ?_); rintro e w' ⟨rfl, hbel⟩))
  rename_i hHeld
  go_wp2
  go_ret
  exact ⟨ret_bool rfl, hHeld.2⟩
end Go.Proofs.YtcdpkbcpglaiaaaGreatDoor
