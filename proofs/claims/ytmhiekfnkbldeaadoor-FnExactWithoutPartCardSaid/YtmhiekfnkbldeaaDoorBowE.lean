/-
  Bows: the mass that is added, on both sides.
-/
import Derived.Test.YtmhiekfnkbldeaaDoorBow3
import Derived.Test.YtmhiekfnkbldeaaDoorErrs2
namespace Go.Proofs.YtmhiekfnkbldeaaDoor
open Go.ChangeShapes Go.WideShapes Go.ChangeAt Go.RowKit Go.Deep
set_option linter.unusedVariables false
set_option linter.unusedSimpArgs false
set_option maxRecDepth 1000000
/-- what is missing for a balance -/
def msV (m q bal : Int) : Int := bal * m - q
def amV (m q at' bal : Int) : Int := if msV m q bal ≤ 0 then 0 else if at' ≤ bal then 0 else if 100000 < ltV (at' - bal) (msV m q bal) then 0 else ltV (at' - bal) (msV m q bal)
def amC (m q at' bal : Int) : Int := if msV m q bal ≤ 0 then 0 else if at' ≤ bal then 3 else if 100000 < ltV (at' - bal) (msV m q bal) then 5 else 0
theorem ms_bd {m q bal : Int} (hm : 1 ≤ m ∧ m ≤ 1200000) (hq : 0 ≤ q ∧ q ≤ 9600000000) (hb : 0 ≤ bal ∧ bal ≤ 8000) : (0 ≤ bal * m ∧ bal * m ≤ 9600000000) ∧ -9600000000 ≤ msV m q bal ∧ msV m q bal ≤ 9600000000 := by
  have := mulP_bd (a := bal) (b := m) (A := 8000) (B := 1200000) hb (by omega)
  unfold msV
  omega
theorem missing_any (m q bal : Int) (hm : 1 ≤ m ∧ m ≤ 1200000) (hq : 0 ≤ q ∧ q ≤ 9600000000) (hb : 0 ≤ bal ∧ bal ≤ 8000) (w : World) : Calls Tryd.prog 39 #[.agg #[.int .i64 m, .int .i64 q], .int .i64 bal] w fun e w' => e = .returned (.int .i64 (msV m q bal)) ∧ Below w.heap.size w w' := by
  have h1 := ms_bd hm hq hb
  have hV : Hid (bal * m - q = msV m q bal) := Lib.hid rfl
  have e1 : IntKind.i64.wrap (bal * m) = bal * m := IntWalk.i64_in _ (by omega)
  have e2 : IntKind.i64.wrap (bal * m - q) = bal * m - q := IntWalk.i64_in _ (by omega)
  go_enter Tryd.func39, Tryd.ntmps39
  go_wp2
  go_ret
  exact ⟨ret_int hV.out, (Below.refl _ _).alloc (Nat.le_refl _) _⟩
theorem bow_cells (m q : Int) (v : Value) (w : World) : (w.alloc (.cells #[.int .i64 m, .int .i64 q, v] 52)).cell? ⟨w.heap.size, 0, none⟩ = some (.int .i64 m) ∧ (w.alloc (.cells #[.int .i64 m, .int .i64 q, v] 52)).cell? ⟨w.heap.size, 1, none⟩ = some (.int .i64 q) ∧ (w.alloc (.cells #[.int .i64 m, .int .i64 q, v] 52)).cell? ⟨w.heap.size, 2, none⟩ = some v :=
  ⟨cellB (heap_alloc_new _ _) 0 _ rfl, cellB (heap_alloc_new _ _) 1 _ rfl, cellB (heap_alloc_new _ _) 2 _ rfl⟩
set_option maxHeartbeats 1600000 in
theorem added_0 (m q at' bal : Int) (pa : Option Addr) (L cap : Nat) (p mm hh : Addr) (hm : 1 ≤ m ∧ m ≤ 1200000) (hq : 0 ≤ q ∧ q ≤ 9600000000) (ha : 0 ≤ at' ∧ at' ≤ 8000) (hb : 0 ≤ bal ∧ bal ≤ 8000) (hc : msV m q bal ≤ 0) (w : World) (hE : BowErr w p mm hh) : Calls Tryd.prog 27 #[.agg #[.int .i64 m, .int .i64 q, .slice pa L cap], .int .i64 at', .int .i64 bal] w fun e w' => e = .returned (.tuple #[.int .i64 (0), .nilIface]) ∧ Below w.heap.size w w' := by
  have cM0 := fun W => missing_any m q bal hm hq hb W
  have hmb := ms_bd hm hq hb
  obtain ⟨c0, c1, c2⟩ := bow_cells m q (.slice pa L cap) w
  have hB0 : Below w.heap.size w (w.alloc (.cells #[.int .i64 m, .int .i64 q, .slice pa L cap] 52)) := (Below.refl _ _).alloc (Nat.le_refl _) _
  have hE1 := hE.below hB0
  obtain ⟨M, hM⟩ : ∃ M, M = msV m q bal := ⟨_, rfl⟩
  rw [← hM] at cM0 hc hmb
  clear hM
  have cM := Lib.hid cM0
  have hkk : Hid (∀ W, Below (w.alloc (.cells #[.int .i64 m, .int .i64 q, .slice pa L cap] 52)).heap.size (w.alloc (.cells #[.int .i64 m, .int .i64 q, .slice pa L cap] 52)) W → W.cell? ⟨0, 0, none⟩ = some (.iface 99 (.pointer (some mm))) ∧ W.cell? ⟨1, 0, none⟩ = some (.iface 99 (.pointer (some hh)))) := Lib.hid (fun W hW => ⟨(hE1.below hW).1.2.1.1, (hE1.below hW).1.2.2.1⟩)
  clear cM0 hE1 hE hmb
  go_enter Tryd.func27, Tryd.ntmps27
  go_wp2_with fail
  generalize (w.alloc (.cells #[.int .i64 m, .int .i64 q, .slice pa L cap] 52)) = W0 at hB0 c0 c1 c2 hkk ⊢
  go_wp2_with (first
    | (go_at_call 39; (with_reducible refine (cM.out _).mono ?_); rintro e w1 ⟨rfl, b1⟩; have kz := (hkk.out _ b1)))
  go_ret2
  exact ⟨rfl, below2 hB0 b1⟩
set_option maxHeartbeats 1600000 in
theorem added_3 (m q at' bal : Int) (pa : Option Addr) (L cap : Nat) (p mm hh : Addr) (hm : 1 ≤ m ∧ m ≤ 1200000) (hq : 0 ≤ q ∧ q ≤ 9600000000) (ha : 0 ≤ at' ∧ at' ≤ 8000) (hb : 0 ≤ bal ∧ bal ≤ 8000) (hc : ¬ msV m q bal ≤ 0) (hd : at' ≤ bal) (w : World) (hE : BowErr w p mm hh) : Calls Tryd.prog 27 #[.agg #[.int .i64 m, .int .i64 q, .slice pa L cap], .int .i64 at', .int .i64 bal] w fun e w' => e = .returned (.tuple #[.int .i64 (0), .iface 99 (.pointer (some mm))]) ∧ Below w.heap.size w w' := by
  have cM0 := fun W => missing_any m q bal hm hq hb W
  have hmb := ms_bd hm hq hb
  obtain ⟨c0, c1, c2⟩ := bow_cells m q (.slice pa L cap) w
  have hB0 : Below w.heap.size w (w.alloc (.cells #[.int .i64 m, .int .i64 q, .slice pa L cap] 52)) := (Below.refl _ _).alloc (Nat.le_refl _) _
  have hE1 := hE.below hB0
  obtain ⟨M, hM⟩ : ∃ M, M = msV m q bal := ⟨_, rfl⟩
  rw [← hM] at cM0 hc hmb
  clear hM
  have cM := Lib.hid cM0
  have hkk : Hid (∀ W, Below (w.alloc (.cells #[.int .i64 m, .int .i64 q, .slice pa L cap] 52)).heap.size (w.alloc (.cells #[.int .i64 m, .int .i64 q, .slice pa L cap] 52)) W → W.cell? ⟨0, 0, none⟩ = some (.iface 99 (.pointer (some mm))) ∧ W.cell? ⟨1, 0, none⟩ = some (.iface 99 (.pointer (some hh)))) := Lib.hid (fun W hW => ⟨(hE1.below hW).1.2.1.1, (hE1.below hW).1.2.2.1⟩)
  clear cM0 hE1 hE hmb
  go_enter Tryd.func27, Tryd.ntmps27
  go_wp2_with fail
  generalize (w.alloc (.cells #[.int .i64 m, .int .i64 q, .slice pa L cap] 52)) = W0 at hB0 c0 c1 c2 hkk ⊢
  go_wp2_with (first
    | (go_at_call 39; (with_reducible refine (cM.out _).mono ?_); rintro e w1 ⟨rfl, b1⟩; have kz := (hkk.out _ b1)))
  obtain ⟨kz1, kz2⟩ := kz
  go_quiet (fail)
  go_wp2
  go_ret2
  exact ⟨rfl, belowN (below2 hB0 b1) _⟩
set_option maxHeartbeats 1600000 in
theorem added_5 (m q at' bal : Int) (pa : Option Addr) (L cap : Nat) (p mm hh : Addr) (hm : 1 ≤ m ∧ m ≤ 1200000) (hq : 0 ≤ q ∧ q ≤ 9600000000) (ha : 0 ≤ at' ∧ at' ≤ 8000) (hb : 0 ≤ bal ∧ bal ≤ 8000) (hc : ¬ msV m q bal ≤ 0) (hd : ¬ at' ≤ bal) (hl : 100000 < ltV (at' - bal) (msV m q bal)) (w : World) (hE : BowErr w p mm hh) : Calls Tryd.prog 27 #[.agg #[.int .i64 m, .int .i64 q, .slice pa L cap], .int .i64 at', .int .i64 bal] w fun e w' => e = .returned (.tuple #[.int .i64 (0), .iface 99 (.pointer (some hh))]) ∧ Below w.heap.size w w' := by
  have cM0 := fun W => missing_any m q bal hm hq hb W
  have hmb := ms_bd hm hq hb
  obtain ⟨c0, c1, c2⟩ := bow_cells m q (.slice pa L cap) w
  have hB0 : Below w.heap.size w (w.alloc (.cells #[.int .i64 m, .int .i64 q, .slice pa L cap] 52)) := (Below.refl _ _).alloc (Nat.le_refl _) _
  have hE1 := hE.below hB0
  have hlb := ltV_bd (e := at' - bal) (g := msV m q bal) (G := 9600000000) (by omega) (by omega) (by omega)
  have cT0 := fun W => leastTimes_any (at' - bal) (msV m q bal) (by omega) (by omega) W
  have e1 : IntKind.i64.wrap (at' - bal) = at' - bal := IntWalk.i64_in _ (by omega)
  obtain ⟨n, hn⟩ : ∃ n, n = ltV (at' - bal) (msV m q bal) := ⟨_, rfl⟩
  rw [← hn] at cT0 hl hlb 
  obtain ⟨M, hM⟩ : ∃ M, M = msV m q bal := ⟨_, rfl⟩
  rw [← hM] at cM0 hc hmb cT0
  have cT := Lib.hid cT0
  clear hM hn cT0
  have cM := Lib.hid cM0
  have hkk : Hid (∀ W, Below (w.alloc (.cells #[.int .i64 m, .int .i64 q, .slice pa L cap] 52)).heap.size (w.alloc (.cells #[.int .i64 m, .int .i64 q, .slice pa L cap] 52)) W → W.cell? ⟨0, 0, none⟩ = some (.iface 99 (.pointer (some mm))) ∧ W.cell? ⟨1, 0, none⟩ = some (.iface 99 (.pointer (some hh)))) := Lib.hid (fun W hW => ⟨(hE1.below hW).1.2.1.1, (hE1.below hW).1.2.2.1⟩)
  clear cM0 hE1 hE hmb
  go_enter Tryd.func27, Tryd.ntmps27
  go_wp2_with fail
  generalize (w.alloc (.cells #[.int .i64 m, .int .i64 q, .slice pa L cap] 52)) = W0 at hB0 c0 c1 c2 hkk ⊢
  go_wp2_with (first
    | (go_at_call 39; (with_reducible refine (cM.out _).mono ?_); rintro e w1 ⟨rfl, b1⟩; have kz := (hkk.out _ b1))
    | (go_at_call 40; (with_reducible refine (cT.out _).mono ?_); rintro e w' ⟨rfl, rfl⟩))
  obtain ⟨kz1, kz2⟩ := kz
  go_quiet (fail)
  go_wp2
  go_ret2
  exact ⟨rfl, belowN (below2 hB0 b1) _⟩
set_option maxHeartbeats 1600000 in
theorem added_y (m q at' bal : Int) (pa : Option Addr) (L cap : Nat) (p mm hh : Addr) (hm : 1 ≤ m ∧ m ≤ 1200000) (hq : 0 ≤ q ∧ q ≤ 9600000000) (ha : 0 ≤ at' ∧ at' ≤ 8000) (hb : 0 ≤ bal ∧ bal ≤ 8000) (hc : ¬ msV m q bal ≤ 0) (hd : ¬ at' ≤ bal) (hl : ¬ 100000 < ltV (at' - bal) (msV m q bal)) (w : World) (hE : BowErr w p mm hh) : Calls Tryd.prog 27 #[.agg #[.int .i64 m, .int .i64 q, .slice pa L cap], .int .i64 at', .int .i64 bal] w fun e w' => e = .returned (.tuple #[.int .i64 (ltV (at' - bal) (msV m q bal)), .nilIface]) ∧ Below w.heap.size w w' := by
  have cM0 := fun W => missing_any m q bal hm hq hb W
  have hmb := ms_bd hm hq hb
  obtain ⟨c0, c1, c2⟩ := bow_cells m q (.slice pa L cap) w
  have hB0 : Below w.heap.size w (w.alloc (.cells #[.int .i64 m, .int .i64 q, .slice pa L cap] 52)) := (Below.refl _ _).alloc (Nat.le_refl _) _
  have hE1 := hE.below hB0
  have hlb := ltV_bd (e := at' - bal) (g := msV m q bal) (G := 9600000000) (by omega) (by omega) (by omega)
  have cT0 := fun W => leastTimes_any (at' - bal) (msV m q bal) (by omega) (by omega) W
  have e1 : IntKind.i64.wrap (at' - bal) = at' - bal := IntWalk.i64_in _ (by omega)
  obtain ⟨n, hn⟩ : ∃ n, n = ltV (at' - bal) (msV m q bal) := ⟨_, rfl⟩
  rw [← hn] at cT0 hl hlb ⊢
  obtain ⟨M, hM⟩ : ∃ M, M = msV m q bal := ⟨_, rfl⟩
  rw [← hM] at cM0 hc hmb cT0
  have cT := Lib.hid cT0
  clear hM hn cT0
  have cM := Lib.hid cM0
  have hkk : Hid (∀ W, Below (w.alloc (.cells #[.int .i64 m, .int .i64 q, .slice pa L cap] 52)).heap.size (w.alloc (.cells #[.int .i64 m, .int .i64 q, .slice pa L cap] 52)) W → W.cell? ⟨0, 0, none⟩ = some (.iface 99 (.pointer (some mm))) ∧ W.cell? ⟨1, 0, none⟩ = some (.iface 99 (.pointer (some hh)))) := Lib.hid (fun W hW => ⟨(hE1.below hW).1.2.1.1, (hE1.below hW).1.2.2.1⟩)
  clear cM0 hE1 hE hmb
  go_enter Tryd.func27, Tryd.ntmps27
  go_wp2_with fail
  generalize (w.alloc (.cells #[.int .i64 m, .int .i64 q, .slice pa L cap] 52)) = W0 at hB0 c0 c1 c2 hkk ⊢
  go_wp2_with (first
    | (go_at_call 39; (with_reducible refine (cM.out _).mono ?_); rintro e w1 ⟨rfl, b1⟩; have kz := (hkk.out _ b1))
    | (go_at_call 40; (with_reducible refine (cT.out _).mono ?_); rintro e w' ⟨rfl, rfl⟩))
  go_ret2
  exact ⟨rfl, below2 hB0 b1⟩
set_option maxHeartbeats 1600000 in
theorem implAddedMass_any (v : Value) (Z : List Prt) (at' bal : Int) (w : World) (hn : Z.length ≤ 1048576) (hv : PrtsAt w v Z) (p mm hh : Addr) (hE : BowErr w p mm hh) : Calls Tryd.prog 9 #[v, .int .i64 at', .int .i64 bal] w fun e w' => e = .returned (.tuple #[.int .i64 (pick (bowB Z && (inB at' 0 8000 && inB bal 0 8000)) (amV (sumF (masF Z) Z.length) (sumF (momF Z) Z.length) at' bal)), .int .i64 (cd3 (bowB Z) (inB at' 0 8000 && inB bal 0 8000) (amC (sumF (masF Z) Z.length) (sumF (momF Z) Z.length) at' bal))]) ∧ Below w.heap.size w w' := by
  have cPa := fun W => isOnStick_any at' W
  have cPb := fun W => isOnStick_any bal W
  cases h2 : inB at' 0 8000 <;> rw [h2] at cPa <;> replace cPa := Lib.hid cPa
  ·
    have cC := codeOfParts_any false v Z w hn hv
    cases h1 : bowB Z <;> rw [h1] at cC <;> replace cC := Lib.hid cC
    all_goals
      go_enter Tryd.func9, Tryd.ntmps9
      go_wp2_with (first
        | (go_at_call 25; (with_reducible refine (cPa.out _).mono ?_); rintro e w' ⟨rfl, rfl⟩)
        | (go_at_call 24; (with_reducible refine cC.out.mono ?_); rintro e w1 ⟨rfl, b1⟩))
      go_ret2
      exact ⟨ret_int2 rfl rfl, b1⟩
  cases h3 : inB bal 0 8000 <;> rw [h3] at cPb <;> replace cPb := Lib.hid cPb
  ·
    have cC := codeOfParts_any false v Z w hn hv
    cases h1 : bowB Z <;> rw [h1] at cC <;> replace cC := Lib.hid cC
    all_goals
      go_enter Tryd.func9, Tryd.ntmps9
      go_wp2_with (first
        | (go_at_call 25; (with_reducible refine (cPa.out _).mono ?_); rintro e w' ⟨rfl, rfl⟩)
        | (go_at_call 25; (with_reducible refine (cPb.out _).mono ?_); rintro e w' ⟨rfl, rfl⟩)
        | (go_at_call 24; (with_reducible refine cC.out.mono ?_); rintro e w1 ⟨rfl, b1⟩))
      go_ret2
      exact ⟨ret_int2 rfl rfl, b1⟩
  have cC := codeOfParts_any true v Z w hn hv
  cases h1 : bowB Z <;> rw [h1] at cC <;> replace cC := Lib.hid cC
  · go_enter Tryd.func9, Tryd.ntmps9
    go_wp2_with (first
      | (go_at_call 25; (with_reducible refine (cPa.out _).mono ?_); rintro e w' ⟨rfl, rfl⟩)
      | (go_at_call 25; (with_reducible refine (cPb.out _).mono ?_); rintro e w' ⟨rfl, rfl⟩)
      | (go_at_call 24; (with_reducible refine cC.out.mono ?_); rintro e w1 ⟨rfl, b1⟩))
    go_ret2
    exact ⟨ret_int2 rfl rfl, b1⟩
  have hp2 := inB_iff.1 h2
  have hp3 := inB_iff.1 h3
  have cC2 := cC.out
  rw [show cd3 true true 0 = 0 from rfl] at cC2
  replace cC := Lib.hid cC2
  clear cC2 h2 h3
  have hlo := Lib.hid (bow_ok h1)
  have hmb := masS_bd hlo.out (Nat.le_refl Z.length)
  have hqb := momS_bd hlo.out (Nat.le_refl Z.length)
  have h12 := (bow_0 h1).2.1
  have h00 := (bow_0 h1).1
  have hv' := Lib.hid hv
  obtain ⟨m, hm0⟩ : ∃ m, m = sumF (masF Z) Z.length := ⟨_, rfl⟩
  obtain ⟨q, hq0⟩ : ∃ q, q = sumF (momF Z) Z.length := ⟨_, rfl⟩
  rw [← hm0] at hmb
  rw [← hq0] at hqb
  have hm := Lib.hid hm0
  have hq := Lib.hid hq0
  have hmb0 : 1 ≤ m ∧ m ≤ 1200000 := by omega
  have hqb0 : 0 ≤ q ∧ q ≤ 9600000000 := by omega
  obtain ⟨p9, cap9, rfl, hcap9, hids9, hread9⟩ := hv
  clear hm0 hq0 h1 hmb hqb hcap9 hids9 hread9
  have hE' := Lib.hid hE
  rw [← hm.out, ← hq.out]
  clear hE
  by_cases hc : msV m q bal ≤ 0
  · have cA := Lib.hid (fun W (hW : Below w.heap.size w W) => added_0 m q at' bal p9 Z.length cap9 p mm hh hmb0 hqb0 hp2 hp3 hc W (hE'.out.below hW))
    have cO : Hid (∀ W, Below w.heap.size w W → Calls Tryd.prog 28 #[.nilIface] W fun e w' => e = .returned (.int .i64 0) ∧ w' = W) := Lib.hid (fun W hW => codeOf_nil W)
    rw [show amV m q at' bal = 0 by unfold amV; rw [if_pos hc], show amC m q at' bal = 0 by unfold amC; rw [if_pos hc]]
    go_enter Tryd.func9, Tryd.ntmps9
    go_wp2_with (first
      | (go_at_call 25; (with_reducible refine (cPa.out _).mono ?_); rintro e w' ⟨rfl, rfl⟩)
      | (go_at_call 25; (with_reducible refine (cPb.out _).mono ?_); rintro e w' ⟨rfl, rfl⟩)
      | (go_at_call 24; (with_reducible refine cC.out.mono ?_); rintro e w1 ⟨rfl, b1⟩)
      | (go_at_call 26; (with_reducible refine (bowOf_num _ Z m q _ hlo.out (hv'.out.below b1) hm.out hq.out).mono ?_); rintro e w2 ⟨rfl, b2⟩; have b12 := below2 b1 b2)
      | (go_at_call 27; (with_reducible refine (cA.out _ b12).mono ?_); rintro e w3 ⟨rfl, b3⟩; have b13 := below2 b12 b3)
      | (go_at_call 28; (with_reducible refine (cO.out _ b13).mono ?_); rintro e w' ⟨rfl, rfl⟩))
    go_ret2
    exact ⟨ret_int2 rfl rfl, b13⟩
  by_cases hd : at' ≤ bal
  · have cA := Lib.hid (fun W (hW : Below w.heap.size w W) => added_3 m q at' bal p9 Z.length cap9 p mm hh hmb0 hqb0 hp2 hp3 hc hd W (hE'.out.below hW))
    have cO : Hid (∀ W, Below w.heap.size w W → Calls Tryd.prog 28 #[.iface 99 (.pointer (some mm))] W fun e w' => e = .returned (.int .i64 3) ∧ w' = W) := Lib.hid (fun W hW => codeOf_m p mm hh W (hE'.out.below hW))
    rw [show amV m q at' bal = 0 by unfold amV; rw [if_neg hc, if_pos hd], show amC m q at' bal = 3 by unfold amC; rw [if_neg hc, if_pos hd]]
    go_enter Tryd.func9, Tryd.ntmps9
    go_wp2_with (first
      | (go_at_call 25; (with_reducible refine (cPa.out _).mono ?_); rintro e w' ⟨rfl, rfl⟩)
      | (go_at_call 25; (with_reducible refine (cPb.out _).mono ?_); rintro e w' ⟨rfl, rfl⟩)
      | (go_at_call 24; (with_reducible refine cC.out.mono ?_); rintro e w1 ⟨rfl, b1⟩)
      | (go_at_call 26; (with_reducible refine (bowOf_num _ Z m q _ hlo.out (hv'.out.below b1) hm.out hq.out).mono ?_); rintro e w2 ⟨rfl, b2⟩; have b12 := below2 b1 b2)
      | (go_at_call 27; (with_reducible refine (cA.out _ b12).mono ?_); rintro e w3 ⟨rfl, b3⟩; have b13 := below2 b12 b3)
      | (go_at_call 28; (with_reducible refine (cO.out _ b13).mono ?_); rintro e w' ⟨rfl, rfl⟩))
    go_ret2
    exact ⟨ret_int2 rfl rfl, b13⟩
  by_cases hl : 100000 < ltV (at' - bal) (msV m q bal)
  · have cA := Lib.hid (fun W (hW : Below w.heap.size w W) => added_5 m q at' bal p9 Z.length cap9 p mm hh hmb0 hqb0 hp2 hp3 hc hd hl W (hE'.out.below hW))
    have cO : Hid (∀ W, Below w.heap.size w W → Calls Tryd.prog 28 #[.iface 99 (.pointer (some hh))] W fun e w' => e = .returned (.int .i64 5) ∧ w' = W) := Lib.hid (fun W hW => codeOf_h p mm hh W (hE'.out.below hW))
    rw [show amV m q at' bal = 0 by unfold amV; rw [if_neg hc, if_neg hd, if_pos hl], show amC m q at' bal = 5 by unfold amC; rw [if_neg hc, if_neg hd, if_pos hl]]
    go_enter Tryd.func9, Tryd.ntmps9
    go_wp2_with (first
      | (go_at_call 25; (with_reducible refine (cPa.out _).mono ?_); rintro e w' ⟨rfl, rfl⟩)
      | (go_at_call 25; (with_reducible refine (cPb.out _).mono ?_); rintro e w' ⟨rfl, rfl⟩)
      | (go_at_call 24; (with_reducible refine cC.out.mono ?_); rintro e w1 ⟨rfl, b1⟩)
      | (go_at_call 26; (with_reducible refine (bowOf_num _ Z m q _ hlo.out (hv'.out.below b1) hm.out hq.out).mono ?_); rintro e w2 ⟨rfl, b2⟩; have b12 := below2 b1 b2)
      | (go_at_call 27; (with_reducible refine (cA.out _ b12).mono ?_); rintro e w3 ⟨rfl, b3⟩; have b13 := below2 b12 b3)
      | (go_at_call 28; (with_reducible refine (cO.out _ b13).mono ?_); rintro e w' ⟨rfl, rfl⟩))
    go_ret2
    exact ⟨ret_int2 rfl rfl, b13⟩
  have cA := Lib.hid (fun W (hW : Below w.heap.size w W) => added_y m q at' bal p9 Z.length cap9 p mm hh hmb0 hqb0 hp2 hp3 hc hd hl W (hE'.out.below hW))
  have cO : Hid (∀ W, Below w.heap.size w W → Calls Tryd.prog 28 #[.nilIface] W fun e w' => e = .returned (.int .i64 0) ∧ w' = W) := Lib.hid (fun W hW => codeOf_nil W)
  rw [show amV m q at' bal = ltV (at' - bal) (msV m q bal) by unfold amV; rw [if_neg hc, if_neg hd, if_neg hl], show amC m q at' bal = 0 by unfold amC; rw [if_neg hc, if_neg hd, if_neg hl]]
  go_enter Tryd.func9, Tryd.ntmps9
  go_wp2_with (first
    | (go_at_call 25; (with_reducible refine (cPa.out _).mono ?_); rintro e w' ⟨rfl, rfl⟩)
    | (go_at_call 25; (with_reducible refine (cPb.out _).mono ?_); rintro e w' ⟨rfl, rfl⟩)
    | (go_at_call 24; (with_reducible refine cC.out.mono ?_); rintro e w1 ⟨rfl, b1⟩)
    | (go_at_call 26; (with_reducible refine (bowOf_num _ Z m q _ hlo.out (hv'.out.below b1) hm.out hq.out).mono ?_); rintro e w2 ⟨rfl, b2⟩; have b12 := below2 b1 b2)
    | (go_at_call 27; (with_reducible refine (cA.out _ b12).mono ?_); rintro e w3 ⟨rfl, b3⟩; have b13 := below2 b12 b3)
    | (go_at_call 28; (with_reducible refine (cO.out _ b13).mono ?_); rintro e w' ⟨rfl, rfl⟩))
  go_ret2
  exact ⟨ret_int2 rfl rfl, b13⟩
theorem reaches_any (q m bal : Int) (hm : 1 ≤ m ∧ m ≤ 1200000) (hb : 0 ≤ bal ∧ bal ≤ 8000) (w : World) : Calls Tryd.prog 22 #[.int .i64 q, .int .i64 m, .int .i64 bal] w fun e w' => e = .returned (.bool (decide (msV m q bal ≤ 0))) ∧ w = w' := by
  have h1 := mulP_bd (a := bal) (b := m) (A := 8000) (B := 1200000) hb (by omega)
  have e1 : IntKind.i64.wrap (bal * m) = bal * m := IntWalk.i64_in _ (by omega)
  have hV : Hid (msV m q bal = bal * m - q) := Lib.hid rfl
  by_cases hc : bal * m ≤ q
  · go_enter Tryd.func22, Tryd.ntmps22
    go_wp2
    go_ret
    exact ⟨ret_bool (by rw [hV.out, decide_eq_true (by omega)]), rfl⟩
  · go_enter Tryd.func22, Tryd.ntmps22
    go_wp2
    go_ret
    exact ⟨ret_bool (by rw [hV.out, decide_eq_false (by omega)]), rfl⟩
set_option maxHeartbeats 1600000 in
theorem specAddedMass_any (v : Value) (Z : List Prt) (at' bal : Int) (w : World) (hn : Z.length ≤ 1048576) (hv : PrtsAt w v Z) : Calls Tryd.prog 7 #[v, .int .i64 at', .int .i64 bal] w fun e w' => e = .returned (.tuple #[.int .i64 (pick (bowB Z && (inB at' 0 8000 && inB bal 0 8000)) (amV (sumF (masF Z) Z.length) (sumF (momF Z) Z.length) at' bal)), .int .i64 (cd3 (bowB Z) (inB at' 0 8000 && inB bal 0 8000) (amC (sumF (masF Z) Z.length) (sumF (momF Z) Z.length) at' bal))]) ∧ Below w.heap.size w w' := by
  have cPa := fun W => l11At_any at' W
  have cPb := fun W => l11At_any bal W
  have cV := l11Ok_any v Z w hn hv
  cases h1 : bowB Z <;> rw [h1] at cV <;> replace cV := Lib.hid cV
  · go_enter Tryd.func7, Tryd.ntmps7
    go_wp2_with (go_at_call 18; (with_reducible refine cV.out.mono ?_); rintro e w1 ⟨rfl, b1⟩)
    go_ret2
    exact ⟨ret_int2 rfl rfl, b1.below⟩
  cases h2 : inB at' 0 8000 <;> rw [h2] at cPa <;> replace cPa := Lib.hid cPa
  · go_enter Tryd.func7, Tryd.ntmps7
    go_wp2_with (first
      | (go_at_call 18; (with_reducible refine cV.out.mono ?_); rintro e w1 ⟨rfl, b1⟩)
      | (go_at_call 19; (with_reducible refine (cPa.out _).mono ?_); rintro e w' ⟨rfl, rfl⟩))
    go_ret2
    exact ⟨ret_int2 rfl rfl, b1.below⟩
  cases h3 : inB bal 0 8000 <;> rw [h3] at cPb <;> replace cPb := Lib.hid cPb
  · go_enter Tryd.func7, Tryd.ntmps7
    go_wp2_with (first
      | (go_at_call 18; (with_reducible refine cV.out.mono ?_); rintro e w1 ⟨rfl, b1⟩)
      | (go_at_call 19; (with_reducible refine (cPa.out _).mono ?_); rintro e w' ⟨rfl, rfl⟩)
      | (go_at_call 19; (with_reducible refine (cPb.out _).mono ?_); rintro e w' ⟨rfl, rfl⟩))
    go_ret2
    exact ⟨ret_int2 rfl rfl, b1.below⟩
  have hp2 := inB_iff.1 h2
  have hp3 := inB_iff.1 h3
  have hlo := Lib.hid (bow_ok h1)
  have hmb := masS_bd hlo.out (Nat.le_refl Z.length)
  have hqb := momS_bd hlo.out (Nat.le_refl Z.length)
  have h12 := (bow_0 h1).2.1
  have h00 := (bow_0 h1).1
  have hv' := Lib.hid hv
  obtain ⟨m, hm0⟩ : ∃ m, m = sumF (masF Z) Z.length := ⟨_, rfl⟩
  obtain ⟨q, hq0⟩ : ∃ q, q = sumF (momF Z) Z.length := ⟨_, rfl⟩
  rw [← hm0] at hmb
  rw [← hq0] at hqb
  have hm := Lib.hid hm0
  have hq := Lib.hid hq0
  have hmb0 : 1 ≤ m ∧ m ≤ 1200000 := by omega
  have hqb0 : 0 ≤ q ∧ q ≤ 9600000000 := by omega
  obtain ⟨p9, cap9, rfl, hcap9, hids9, hread9⟩ := hv
  clear hm0 hq0 h1 hmb hqb hcap9 hids9 hread9
  have cQ0 := fun W (hd : DrewOf w W) => l11Moment_any _ Z W hlo.out (hv'.out.below hd.below)
  have cM0 := fun W (hd : DrewOf w W) => l11Mass_any _ Z W hlo.out (hv'.out.below hd.below)
  rw [← hq.out] at cQ0
  rw [← hm.out] at cM0
  have cQ := Lib.hid cQ0
  have cM := Lib.hid cM0
  rw [← hm.out, ← hq.out]
  have cR0 := fun W => reaches_any q m bal hmb0 hp3 W
  have hmb := ms_bd hmb0 hqb0 hp3
  clear h2 h3 cQ0 cM0
  by_cases hc : msV m q bal ≤ 0
  · rw [decide_eq_true hc] at cR0
    have cR := Lib.hid cR0
    clear cR0 hmb
    rw [show amV m q at' bal = 0 by unfold amV; rw [if_pos hc], show amC m q at' bal = 0 by unfold amC; rw [if_pos hc]]
    go_enter Tryd.func7, Tryd.ntmps7
    go_wp2_with (first
      | (go_at_call 18; (with_reducible refine cV.out.mono ?_); rintro e w1 ⟨rfl, b1⟩)
      | (go_at_call 19; (with_reducible refine (cPa.out _).mono ?_); rintro e w' ⟨rfl, rfl⟩)
      | (go_at_call 19; (with_reducible refine (cPb.out _).mono ?_); rintro e w' ⟨rfl, rfl⟩)
      | (go_at_call 20; (with_reducible refine (cQ.out _ b1).mono ?_); rintro e w2 ⟨rfl, b2⟩)
      | (go_at_call 21; (with_reducible refine (cM.out _ (b1.trans b2)).mono ?_); rintro e w3 ⟨rfl, b3⟩)
      | (go_at_call 22; (with_reducible refine (cR.out _).mono ?_); rintro e w' ⟨rfl, rfl⟩))
    go_ret2
    exact ⟨ret_int2 rfl rfl, ((b1.trans b2).trans b3).below⟩
  rw [decide_eq_false hc] at cR0
  have cR := Lib.hid cR0
  clear cR0
  by_cases hd : at' ≤ bal
  · rw [show amV m q at' bal = 0 by unfold amV; rw [if_neg hc, if_pos hd], show amC m q at' bal = 3 by unfold amC; rw [if_neg hc, if_pos hd]]
    clear hmb
    go_enter Tryd.func7, Tryd.ntmps7
    go_wp2_with (first
      | (go_at_call 18; (with_reducible refine cV.out.mono ?_); rintro e w1 ⟨rfl, b1⟩)
      | (go_at_call 19; (with_reducible refine (cPa.out _).mono ?_); rintro e w' ⟨rfl, rfl⟩)
      | (go_at_call 19; (with_reducible refine (cPb.out _).mono ?_); rintro e w' ⟨rfl, rfl⟩)
      | (go_at_call 20; (with_reducible refine (cQ.out _ b1).mono ?_); rintro e w2 ⟨rfl, b2⟩)
      | (go_at_call 21; (with_reducible refine (cM.out _ (b1.trans b2)).mono ?_); rintro e w3 ⟨rfl, b3⟩)
      | (go_at_call 22; (with_reducible refine (cR.out _).mono ?_); rintro e w' ⟨rfl, rfl⟩))
    go_ret2
    exact ⟨ret_int2 rfl rfl, ((b1.trans b2).trans b3).below⟩
  have hms : msV m q bal = bal * m - q := rfl
  have hlb := ltV_bd (e := at' - bal) (g := msV m q bal) (G := 9600000000) (by omega) (by omega) (by omega)
  have hlv : (bal * m - q + at' - bal - 1).tdiv (at' - bal) = ltV (at' - bal) (msV m q bal) := by
    rw [Int.tdiv_eq_ediv_of_nonneg (by omega)]
    unfold ltV
    rw [show max 0 (msV m q bal) + (at' - bal) - 1 = bal * m - q + at' - bal - 1 by omega]
  have hle : (bal * m - q + at' - bal - 1) / (at' - bal) = ltV (at' - bal) (msV m q bal) := by
    rw [← hlv, Int.tdiv_eq_ediv_of_nonneg (by omega)]
  have e1 : IntKind.i64.wrap (bal * m) = bal * m := IntWalk.i64_in _ (by omega)
  have e2 : IntKind.i64.wrap (bal * m - q) = bal * m - q := IntWalk.i64_in _ (by omega)
  have e3 : IntKind.i64.wrap (bal * m - q + at') = bal * m - q + at' := IntWalk.i64_in _ (by omega)
  have e4 : IntKind.i64.wrap (bal * m - q + at' - bal) = bal * m - q + at' - bal := IntWalk.i64_in _ (by omega)
  have e5 : IntKind.i64.wrap (bal * m - q + at' - bal - 1) = bal * m - q + at' - bal - 1 := IntWalk.i64_in _ (by omega)
  have e6 : IntKind.i64.wrap (at' - bal) = at' - bal := IntWalk.i64_in _ (by omega)
  have e7 : IntKind.i64.wrap ((bal * m - q + at' - bal - 1).tdiv (at' - bal)) = ltV (at' - bal) (msV m q bal) := by rw [hlv]; exact IntWalk.i64_in _ (by omega)
  have hne : at' - bal ≠ 0 := by omega
  have hle' := Lib.hid hle
  have hlb' := Lib.hid hlb
  by_cases hl : 100000 < ltV (at' - bal) (msV m q bal)
  · rw [show amV m q at' bal = 0 by unfold amV; rw [if_neg hc, if_neg hd, if_pos hl], show amC m q at' bal = 5 by unfold amC; rw [if_neg hc, if_neg hd, if_pos hl]]
    clear hmb hle hlv hms hlb hc
    go_enter Tryd.func7, Tryd.ntmps7
    go_wp2_with (first
      | (go_at_call 18; (with_reducible refine cV.out.mono ?_); rintro e w1 ⟨rfl, b1⟩)
      | (go_at_call 19; (with_reducible refine (cPa.out _).mono ?_); rintro e w' ⟨rfl, rfl⟩)
      | (go_at_call 19; (with_reducible refine (cPb.out _).mono ?_); rintro e w' ⟨rfl, rfl⟩)
      | (go_at_call 20; (with_reducible refine (cQ.out _ b1).mono ?_); rintro e w2 ⟨rfl, b2⟩)
      | (go_at_call 21; (with_reducible refine (cM.out _ (b1.trans b2)).mono ?_); rintro e w3 ⟨rfl, b3⟩)
      | (go_at_call 22; (with_reducible refine (cR.out _).mono ?_); rintro e w' ⟨rfl, rfl⟩))
    go_ret2
    exact ⟨ret_int2 rfl rfl, ((b1.trans b2).trans b3).below⟩
  rw [show amV m q at' bal = ltV (at' - bal) (msV m q bal) by unfold amV; rw [if_neg hc, if_neg hd, if_neg hl], show amC m q at' bal = 0 by unfold amC; rw [if_neg hc, if_neg hd, if_neg hl]]
  clear hmb hle hlv hms hlb hc
  go_enter Tryd.func7, Tryd.ntmps7
  go_wp2_with (first
    | (go_at_call 18; (with_reducible refine cV.out.mono ?_); rintro e w1 ⟨rfl, b1⟩)
    | (go_at_call 19; (with_reducible refine (cPa.out _).mono ?_); rintro e w' ⟨rfl, rfl⟩)
    | (go_at_call 19; (with_reducible refine (cPb.out _).mono ?_); rintro e w' ⟨rfl, rfl⟩)
    | (go_at_call 20; (with_reducible refine (cQ.out _ b1).mono ?_); rintro e w2 ⟨rfl, b2⟩)
    | (go_at_call 21; (with_reducible refine (cM.out _ (b1.trans b2)).mono ?_); rintro e w3 ⟨rfl, b3⟩)
    | (go_at_call 22; (with_reducible refine (cR.out _).mono ?_); rintro e w' ⟨rfl, rfl⟩))
  go_ret2
  exact ⟨ret_int2 rfl rfl, ((b1.trans b2).trans b3).below⟩
end Go.Proofs.YtmhiekfnkbldeaaDoor
