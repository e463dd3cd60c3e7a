/-
  Bows: inertia, the heaviest part.
-/
import Derived.Test.YtmhiekfnkbldeaaBow2
namespace Go.Proofs.Ytmhiekfnkbldeaa
open Go.ChangeShapes Go.WideShapes Go.ChangeAt Go.RowKit Go.Deep
set_option linter.unusedVariables false
set_option linter.unusedSimpArgs false
set_option maxRecDepth 1000000
theorem codeOfParts_any (ok : Bool) (v : Value) (Z : List Prt) (w : World) (hn : Z.length ≤ 1048576) (hv : PrtsAt w v Z) : Calls Try.prog 45 #[v, .bool ok] w fun e w' => e = .returned (.int .i64 (cd3 (bowB Z) ok 0)) ∧ Below w.heap.size w w' := by
  have cV := implValidBow_any v Z w hn hv
  cases h1 : bowB Z <;> rw [h1] at cV <;> replace cV := Lib.hid cV
  · go_enter Try.func45, Try.ntmps45
    go_wp2_with (go_at_call 14; (with_reducible refine cV.out.mono ?_); rintro e w1 ⟨rfl, b1⟩)
    go_ret
    exact ⟨ret_int rfl, b1⟩
  · cases ok
    all_goals
      go_enter Try.func45, Try.ntmps45
      go_wp2_with (go_at_call 14; (with_reducible refine cV.out.mono ?_); rintro e w1 ⟨rfl, b1⟩)
      go_ret
      exact ⟨ret_int rfl, b1⟩
theorem inertia_any (s : ByteArray) (a : Int) (b : Int) (p : Int) (ha : 0 ≤ a ∧ a ≤ 8000) (hb : 1 ≤ b ∧ b ≤ 100000) (hp : 0 ≤ p ∧ p ≤ 8000) (w : World) : Calls Try.prog 47 #[.agg #[.string s, .int .i64 a, .int .i64 b], .int .i64 p] w fun e w' => e = .returned (.int .i64 (b * (a - p) * (a - p))) ∧ Below w.heap.size w w' := by
  have hib := inr_bd (b := b) (d := a - p) hb (by omega) (by omega)
  have e1 : IntKind.i64.wrap (a - p) = a - p := IntWalk.i64_in _ (by omega)
  have e2 : IntKind.i64.wrap (b * (a - p)) = b * (a - p) := IntWalk.i64_in _ (by omega)
  have e3 : IntKind.i64.wrap (b * (a - p) * (a - p)) = b * (a - p) * (a - p) := IntWalk.i64_in _ (by omega)
  go_enter Try.func47, Try.ntmps47
  go_wp2
  go_ret
  exact ⟨rfl, (Below.refl _ _).alloc (Nat.le_refl _) _⟩
set_option maxHeartbeats 1600000 in
theorem implInertiaOf_any (v : Value) (Z : List Prt) (p : Int) (w : World) (hn : Z.length ≤ 1048576) (hv : PrtsAt w v Z) : Calls Try.prog 21 #[v, .int .i64 p] w fun e w' => e = .returned (.tuple #[.int .i64 (pick (bowB Z && inB p 0 8000) (sumF (inrF Z p) Z.length / 1000)), .int .i64 (cd3 (bowB Z) (inB p 0 8000) 0)]) ∧ Below w.heap.size w w' := by
  have cP := fun W => isOnStick_any p W
  cases h2 : inB p 0 8000 <;> rw [h2] at cP <;> replace cP := Lib.hid cP
  · have cC := codeOfParts_any false v Z w hn hv
    cases h1 : bowB Z <;> rw [h1] at cC <;> replace cC := Lib.hid cC
    all_goals
      go_enter Try.func21, Try.ntmps21
      go_wp2_with (first
        | (go_at_call 46; (with_reducible refine (cP.out _).mono ?_); rintro e w' ⟨rfl, rfl⟩)
        | (go_at_call 45; (with_reducible refine cC.out.mono ?_); rintro e w1 ⟨rfl, b1⟩))
      go_ret2
      exact ⟨ret_int2 rfl rfl, b1⟩
  have cC := codeOfParts_any true v Z w hn hv
  cases h1 : bowB Z <;> rw [h1] at cC <;> replace cC := Lib.hid cC
  · go_enter Try.func21, Try.ntmps21
    go_wp2_with (first
      | (go_at_call 46; (with_reducible refine (cP.out _).mono ?_); rintro e w' ⟨rfl, rfl⟩)
      | (go_at_call 45; (with_reducible refine cC.out.mono ?_); rintro e w1 ⟨rfl, b1⟩))
    go_ret2
    exact ⟨ret_int2 rfl rfl, b1⟩
  have hp := inB_iff.1 h2
  have hlo := Lib.hid (bow_ok h1)
  have h12 := (bow_0 h1).2.1
  have cC2 := cC.out
  rw [show cd3 true true 0 = 0 from rfl] at cC2
  replace cC := Lib.hid cC2
  obtain ⟨p9, cap, rfl, hcap, hids, hread⟩ := hv
  have hread' := Lib.hid hread
  clear hread hids h1 h2 cC2
  go_enter Try.func21, Try.ntmps21
  go_wp2_with (first
    | (go_at_call 46; (with_reducible refine (cP.out _).mono ?_); rintro e w' ⟨rfl, rfl⟩)
    | (go_at_call 45; (with_reducible refine cC.out.mono ?_); rintro e w1 ⟨rfl, b1⟩))
  go_loopw [7, 19] (fun q i wr => ∃ (k : Nat) (n : Int), k ≤ Z.length ∧ i = .int .i64 k ∧ q = .int .i64 n ∧ 0 ≤ n ∧ n ≤ 6400000000000 * k ∧ Hid (n = sumF (inrF Z p) k) ∧ Hid (Below w.heap.size w wr)) (fun _ i _ => Z.length - (intOf i).toNat)
  case atStart => exact ⟨0, 0, by omega, rfl, rfl, by omega, by omega, Lib.hid rfl, Lib.hid b1⟩
  case round =>
    obtain ⟨k, n, hk, rfl, rfl, hn0, hn1, hnn, hbR⟩ := hrel
    by_cases hlt : k < Z.length
    · rcases hread'.out with h | ⟨g, o, rfl, hg, hc⟩
      · subst h; simp at hlt
      have hltI : (k : Int) < (Z.length : Int) := by omega
      have hr0 := range_below (hc k hlt) hg hbR.out
      have hxb := bowOk_at hlo.out hlt
      have hnew : Hid (n + Z[k].mas * (Z[k].plc - p) * (Z[k].plc - p) = sumF (inrF Z p) (k + 1)) := Lib.hid (by show _ = sumF (inrF Z p) k + inrF Z p k; rw [inrF_at hlt, hnn.out])
      obtain ⟨x, hx⟩ : ∃ x, x = Z[k] := ⟨_, rfl⟩
      rw [← hx] at hr0 hxb hnew
      obtain ⟨s, a, b⟩ := x
      simp only at hxb hnew
      have hr1 : wr.rangeAt g (o + k * 3) [.string s, .int .i64 a, .int .i64 b] := hr0
      have cI0 := fun W => inertia_any s a b p hxb.1 hxb.2 hp W
      have hib := (inr_bd (b := b) (d := a - p) hxb.2 (by omega) (by omega)).2
      obtain ⟨z, hz⟩ : ∃ z, z = b * (a - p) * (a - p) := ⟨_, rfl⟩
      rw [← hz] at cI0 hib hnew
      have cI := Lib.hid cI0
      clear hr0 hx hc cI0 hz
      go_wp2_with (first
        | (refine wpList_load_mid rfl _ _ rfl g (o + k * 3) rfl _ _ hr1 Try.underlying45 rfl rfl ?_)
        | (go_at_call 47; (with_reducible refine (cI.out _).mono ?_); rintro e w2 ⟨rfl, b2⟩))
      go_roundw
      case rel => exact ⟨k + 1, n + z, by omega, by go_num, rfl, by omega, by omega, hnew, Lib.hid (below2 (hbR.out.alloc hbR.out.size _) b2)⟩
      case measure => simp [intOf]; omega
    · obtain rfl : k = Z.length := by omega
      have hq : Hid (n / 1000 = sumF (inrF Z p) Z.length / 1000) := Lib.hid (by rw [hnn.out])
      have e1 : IntKind.i64.wrap (n / 1000) = n / 1000 := IntWalk.i64_in _ (by omega)
      go_wp2
      go_ret2
      exact ⟨ret_int2 hq.out rfl, hbR.out⟩
set_option maxHeartbeats 1600000 in
theorem specInertiaOf_any (v : Value) (Z : List Prt) (p : Int) (w : World) (hn : Z.length ≤ 1048576) (hv : PrtsAt w v Z) : Calls Try.prog 20 #[v, .int .i64 p] w fun e w' => e = .returned (.tuple #[.int .i64 (pick (bowB Z && inB p 0 8000) (sumF (inrF Z p) Z.length / 1000)), .int .i64 (cd3 (bowB Z) (inB p 0 8000) 0)]) ∧ Below w.heap.size w w' := by
  have cP := fun W => l11At_any p W
  have cV := l11Ok_any v Z w hn hv
  cases h1 : bowB Z <;> rw [h1] at cV <;> replace cV := Lib.hid cV
  · go_enter Try.func20, Try.ntmps20
    go_wp2_with (go_at_call 33; (with_reducible refine cV.out.mono ?_); rintro e w1 ⟨rfl, b1⟩)
    go_ret2
    exact ⟨ret_int2 rfl rfl, b1.below⟩
  cases h2 : inB p 0 8000 <;> rw [h2] at cP <;> replace cP := Lib.hid cP
  · go_enter Try.func20, Try.ntmps20
    go_wp2_with (first
      | (go_at_call 33; (with_reducible refine cV.out.mono ?_); rintro e w1 ⟨rfl, b1⟩)
      | (go_at_call 44; (with_reducible refine (cP.out _).mono ?_); rintro e w' ⟨rfl, rfl⟩))
    go_ret2
    exact ⟨ret_int2 rfl rfl, b1.below⟩
  have hp := inB_iff.1 h2
  have hlo := Lib.hid (bow_ok h1)
  have h12 := (bow_0 h1).2.1
  obtain ⟨p9, cap, rfl, hcap, hids, hread⟩ := hv
  have hread' := Lib.hid hread
  clear hread hids h1 h2
  go_enter Try.func20, Try.ntmps20
  go_wp2_with (first
    | (go_at_call 33; (with_reducible refine cV.out.mono ?_); rintro e w1 ⟨rfl, b1⟩)
    | (go_at_call 44; (with_reducible refine (cP.out _).mono ?_); rintro e w' ⟨rfl, rfl⟩))
  go_loopw [6, 7] (fun q i wr => ∃ (k : Nat) (n : Int), k ≤ Z.length ∧ i = .int .i64 k ∧ q = .int .i64 n ∧ 0 ≤ n ∧ n ≤ 6400000000000 * k ∧ Hid (n = sumF (inrF Z p) k) ∧ DrewOf w wr) (fun _ i _ => Z.length - (intOf i).toNat)
  case atStart => exact ⟨0, 0, by omega, rfl, rfl, by omega, by omega, Lib.hid rfl, b1⟩
  case round =>
    obtain ⟨k, n, hk, rfl, rfl, hn0, hn1, hnn, hd⟩ := hrel
    by_cases hlt : k < Z.length
    · rcases hread'.out with h | ⟨g, o, rfl, hg, hc⟩
      · subst h; simp at hlt
      have hltI : (k : Int) < (Z.length : Int) := by omega
      obtain ⟨c1, c2⟩ := prt_at hd (hc k hlt)
      have hxb := bowOk_at hlo.out hlt
      have hnew : Hid (n + Z[k].mas * (Z[k].plc - p) * (Z[k].plc - p) = sumF (inrF Z p) (k + 1)) := Lib.hid (by show _ = sumF (inrF Z p) k + inrF Z p k; rw [inrF_at hlt, hnn.out])
      obtain ⟨x, hx⟩ : ∃ x, x = Z[k] := ⟨_, rfl⟩
      rw [← hx] at c1 c2 hxb hnew
      obtain ⟨s, a, b⟩ := x
      simp only at c1 c2 hxb hnew
      have hib := inr_bd (b := b) (d := a - p) hxb.2 (by omega) (by omega)
      have e1 : IntKind.i64.wrap (a - p) = a - p := IntWalk.i64_in _ (by omega)
      have e2 : IntKind.i64.wrap (b * (a - p)) = b * (a - p) := IntWalk.i64_in _ (by omega)
      have e3 : IntKind.i64.wrap (b * (a - p) * (a - p)) = b * (a - p) * (a - p) := IntWalk.i64_in _ (by omega)
      have e4 : IntKind.i64.wrap (n + b * (a - p) * (a - p)) = n + b * (a - p) * (a - p) := IntWalk.i64_in _ (by omega)
      clear hx hc
      go_wp2
      go_roundw
      case rel => exact ⟨k + 1, n + b * (a - p) * (a - p), by omega, by go_num, rfl, by omega, by omega, hnew, hd⟩
      case measure => simp [intOf]; omega
    · obtain rfl : k = Z.length := by omega
      have hq : Hid (n / 1000 = sumF (inrF Z p) Z.length / 1000) := Lib.hid (by rw [hnn.out])
      have e1 : IntKind.i64.wrap (n / 1000) = n / 1000 := IntWalk.i64_in _ (by omega)
      go_wp2
      go_ret2
      exact ⟨ret_int2 hq.out rfl, hd.below⟩
theorem heaviest1_any (bx : Nat) (v : Value) (Z : List Prt) (k : Nat) (w : World) (hk : k < Z.length) (h12 : Z.length ≤ 12) (hc : w.cell? ⟨bx, 0, none⟩ = some v) (hv : PrtsAt w v Z) : Calls Try.prog 57 #[.int .i64 (k : Int), .pointer (some ⟨bx, 0, none⟩)] w fun e w' => e = .returned (.int .i64 (masF Z k)) ∧ Below w.heap.size w w' := by
  have hx := Lib.hid (masF_at hk)
  obtain ⟨a0, cap, rfl, hcap, hids, hread⟩ := hv
  rcases hread with h | ⟨g, o, rfl, hg, hr⟩
  · subst h; simp at hk
  have hkI : (k : Int) < (Z.length : Int) := by omega
  have c2 := (prt_at (DrewOf.refl w) (hr k hk)).2
  obtain ⟨z, hz⟩ : ∃ z, z = Z[k].mas := ⟨_, rfl⟩
  rw [← hz] at c2 hx
  clear hr hids hz
  go_enter Try.func57, Try.ntmps57
  go_wp2
  go_ret
  exact ⟨ret_int hx.out.symm, Below.refl _ _⟩
set_option maxHeartbeats 1600000 in
theorem implHeaviestPart_any (v : Value) (Z : List Prt) (w : World) (hn : Z.length ≤ 1048576) (hv : PrtsAt w v Z) : Calls Try.prog 29 #[v] w fun e w' => e = .returned (.tuple #[.int .i64 (pick (bowB Z) ((fgI (masF Z) Z.length : Nat) : Int)), .int .i64 (code (bowB Z) 1)]) ∧ Below w.heap.size w w' := by
  have hv' := Lib.hid hv
  obtain ⟨a0, cap, rfl, hcap, hids, hread⟩ := hv
  clear hread hids
  have hB0 : Below w.heap.size w (w.alloc (.cells #[.slice a0 Z.length cap] 25)) := (Below.refl _ _).alloc (Nat.le_refl _) _
  have q1 : (w.alloc (.cells #[.slice a0 Z.length cap] 25)).cell? ⟨w.heap.size, 0, none⟩ = some (.slice a0 Z.length cap) := cellB (heap_alloc_new w (.cells #[.slice a0 Z.length cap] 25)) 0 _ rfl
  have hsz : w.heap.size < (w.alloc (.cells #[.slice a0 Z.length cap] 25)).heap.size := by simp
  have cV := implValidBow_any (.slice a0 Z.length cap) Z (w.alloc (.cells #[.slice a0 Z.length cap] 25)) hn (hv'.out.below hB0)
  cases h1 : bowB Z <;> rw [h1] at cV <;> replace cV := Lib.hid cV
  · go_enter Try.func29, Try.ntmps29
    go_wp2_with (go_at_call 14; (with_reducible refine cV.out.mono ?_); rintro e w1 ⟨rfl, b1⟩)
    go_ret2
    exact ⟨ret_int2 rfl rfl, below2 hB0 b1⟩
  have h12 := (bow_0 h1).2.1
  have h00 := (bow_0 h1).1
  have cF := Lib.hid (fun W (hb : Below (w.alloc (.cells #[.slice a0 Z.length cap] 25)).heap.size (w.alloc (.cells #[.slice a0 Z.length cap] 25)) W) => firstGreatest_any 57 #[.pointer (some ⟨w.heap.size, 0, none⟩)] Z.length (masF Z) W (enters_of Try.func57 (by kernel_rfl) rfl) (by omega) (by omega) (fun W2 i hW hi =>
    heaviest1_any w.heap.size (.slice a0 Z.length cap) Z i W2 hi h12 ((hW.cell (p := ⟨w.heap.size, 0, none⟩) (Nat.lt_of_lt_of_le hsz hb.size)).trans ((hb.cell (p := ⟨w.heap.size, 0, none⟩) hsz).trans q1)) (((hv'.out.below hB0).below hb).below hW)))
  go_enter Try.func29, Try.ntmps29
  go_wp2_with (first
    | (go_at_call 14; (with_reducible refine cV.out.mono ?_); rintro e w1 ⟨rfl, b1⟩; have q2 := (b1.cell (p := ⟨w.heap.size, 0, none⟩) hsz).trans q1)
    | (go_at_call 51; (with_reducible refine (cF.out _ b1).mono ?_); rintro e w2 ⟨rfl, b2⟩))
  go_ret2
  exact ⟨ret_int2 rfl rfl, below2 hB0 (below2 b1 b2)⟩
set_option maxHeartbeats 1600000 in
theorem specHeaviestPart_any (v : Value) (Z : List Prt) (w : World) (hn : Z.length ≤ 1048576) (hv : PrtsAt w v Z) : Calls Try.prog 28 #[v] w fun e w' => e = .returned (.tuple #[.int .i64 (pick (bowB Z) ((fgI (masF Z) Z.length : Nat) : Int)), .int .i64 (code (bowB Z) 1)]) ∧ Below w.heap.size w w' := by
  have cV := l11Ok_any v Z w hn hv
  cases h1 : bowB Z <;> rw [h1] at cV <;> replace cV := Lib.hid cV
  · go_enter Try.func28, Try.ntmps28
    go_wp2_with (go_at_call 33; (with_reducible refine cV.out.mono ?_); rintro e w1 ⟨rfl, b1⟩)
    go_ret2
    exact ⟨ret_int2 rfl rfl, b1.below⟩
  have h12 := (bow_0 h1).2.1
  have h00 := (bow_0 h1).1
  obtain ⟨p9, cap, rfl, hcap, hids, hread⟩ := hv
  have hread' := Lib.hid hread
  clear hread hids h1
  go_enter Try.func28, Try.ntmps28
  go_wp2_with (go_at_call 33; (with_reducible refine cV.out.mono ?_); rintro e w1 ⟨rfl, b1⟩)
  go_loopw [4, 5] (fun q i wr => ∃ k x : Nat, 1 ≤ k ∧ k ≤ Z.length ∧ i = .int .i64 k ∧ q = .int .i64 x ∧ x < k ∧ Hid (x = fgI (masF Z) k) ∧ DrewOf w wr) (fun _ i _ => Z.length - (intOf i).toNat)
  case atStart => exact ⟨1, 0, by omega, by omega, rfl, rfl, by omega, Lib.hid (fgI_one _).symm, b1⟩
  case round =>
    obtain ⟨k, x, hk0, hk, rfl, rfl, hxk, hx, hd⟩ := hrel
    by_cases hlt : k < Z.length
    · rcases hread'.out with h | ⟨g, o, rfl, hg, hc⟩
      · subst h; simp at hlt
      have hltI : (k : Int) < (Z.length : Int) := by omega
      have hxI : (x : Int) < (Z.length : Int) := by omega
      have c2 := (prt_at hd (hc k hlt)).2
      have c3 := (prt_at hd (hc x (by omega))).2
      have hf1 := masF_at hlt
      have hf2 := masF_at (Z := Z) (k := x) (by omega)
      obtain ⟨y1, hy1⟩ : ∃ y, y = Z[k].mas := ⟨_, rfl⟩
      obtain ⟨y2, hy2⟩ : ∃ y, y = Z[x].mas := ⟨_, rfl⟩
      rw [← hy1] at c2 hf1
      rw [← hy2] at c3 hf2
      by_cases hgt : y2 < y1
      · have hnew : Hid (k = fgI (masF Z) (k + 1)) := Lib.hid (by show k = if masF Z (fgI (masF Z) k) < masF Z k then k else fgI (masF Z) k; rw [← hx.out, hf1, hf2, if_pos hgt])
        clear hf1 hf2 hy1 hy2 hc
        go_wp2
        go_quiet (fail)
        go_wp2
        go_roundw
        case rel => exact ⟨k + 1, k, by omega, by omega, by go_num, rfl, by omega, hnew, hd.more _⟩
        case measure => simp [intOf]; omega
      · have hnew : Hid (x = fgI (masF Z) (k + 1)) := Lib.hid (by show x = if masF Z (fgI (masF Z) k) < masF Z k then k else fgI (masF Z) k; rw [← hx.out, hf1, hf2, if_neg hgt])
        clear hf1 hf2 hy1 hy2 hc
        go_wp2
        go_quiet (fail)
        go_wp2
        go_roundw
        case rel => exact ⟨k + 1, x, by omega, by omega, by go_num, rfl, by omega, hnew, hd.more _⟩
        case measure => simp [intOf]; omega
    · obtain rfl : k = Z.length := by omega
      go_wp2
      go_ret2
      exact ⟨ret_int2 (by rw [hx.out]; rfl) rfl, hd.below⟩
end Go.Proofs.Ytmhiekfnkbldeaa
