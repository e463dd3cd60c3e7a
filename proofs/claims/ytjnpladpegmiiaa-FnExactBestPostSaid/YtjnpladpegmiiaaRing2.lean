/-
  The best place of a post, on both sides.
-/
import Derived.Test.YtjnpladpegmiiaaRing
import Derived.Test.YtjnpladpegmiiaaPegIn
namespace Go.Proofs.Ytjnpladpegmiiaa
open Go.ChangeShapes Go.WideShapes Go.ChangeAt Go.RowKit Go.Deep
set_option linter.unusedVariables false
set_option linter.unusedSimpArgs false
set_option maxRecDepth 1000000
theorem ret_int3 {a b c d e f : Int} (h1 : a = d) (h2 : b = e) (h3 : c = f) : Ending.returned (.tuple #[.int .i64 a, .int .i64 b, .int .i64 c]) = .returned (.tuple #[.int .i64 d, .int .i64 e, .int .i64 f]) := by rw [h1, h2, h3]
theorem row_len {G : List (List Int)} (hn : G.length + totL G ≤ 1048576) (i : Nat) (hi : i < G.length) : (rwAt G i).length ≤ 1048576 := by
  rw [rwAt_at hi]
  have := totL_ge (List.getElem_mem hi)
  omega
theorem bp2_any (bx : Nat) (v : Value) (G : List (List Int)) (k : Nat) (w : World) (hk : k < G.length) (hok : rowsB G = true) (hx : w.cell? ⟨bx, 0, none⟩ = some v) (hv : GridAt w v G) : Calls Try.prog 85 #[.int .i64 (k : Int), .pointer (some ⟨bx, 0, none⟩)] w fun e w' => e = .returned (.int .i64 (rwM (rwAt G k))) ∧ Below w.heap.size w w' := by
  have hb := rows_bd hok
  have hr := ring_bd (hb.2.2 k hk)
  obtain ⟨a0, cap, rfl, hcap, hread⟩ := hv
  rcases hread with h | ⟨g, o, rfl, hg, hc⟩
  · subst h; simp at hk
  have hkI : (k : Int) < (G.length : Int) := by omega
  obtain ⟨u, c0, hu⟩ := grid_row (Below.refl _ _) hg hc hk
  have cM := Lib.hid (maxRow_any u (rwAt G k) w (by omega) (by omega) hu)
  obtain ⟨m, hm⟩ : ∃ m, m = rwM (rwAt G k) := ⟨_, rfl⟩
  rw [← hm] at cM ⊢
  obtain ⟨a1, cap1, rfl, hcap1, _, _⟩ := hu
  clear hc hm hr hb
  go_enter Try.func85, Try.ntmps85
  go_wp2_with (go_at_call 86; (with_reducible refine cM.out.mono ?_); rintro e w2 ⟨rfl, rfl⟩)
  go_ret
  exact ⟨rfl, Below.refl _ _⟩
set_option maxHeartbeats 3200000 in
theorem implBestPost_any (v : Value) (G : List (List Int)) (w : World) (hn : G.length + totL G ≤ 1048576) (hv : GridAt w v G) : Calls Try.prog 45 #[v] w fun e w' => e = .returned (.tuple #[.int .i64 (pick (rowsB G) (bpI G : Nat)), .int .i64 (pick (rowsB G) (bpK G : Nat)), .int .i64 (code (rowsB G) 2)]) ∧ Below w.heap.size w w' := by
  have hv' := Lib.hid hv
  obtain ⟨a0, cap, rfl, hcap, hread⟩ := hv
  have hB0 : Below w.heap.size w (w.alloc (.cells #[.slice a0 G.length cap] 55)) := (Below.refl _ _).alloc (Nat.le_refl _) _
  have q1 : (w.alloc (.cells #[.slice a0 G.length cap] 55)).cell? ⟨w.heap.size, 0, none⟩ = some (.slice a0 G.length cap) := cellB (heap_alloc_new w (.cells #[.slice a0 G.length cap] 55)) 0 _ rfl
  have hsz : w.heap.size < (w.alloc (.cells #[.slice a0 G.length cap] 55)).heap.size := by simp
  have cW := fun W => isRingCount_any (G.length : Int) W
  have cC := containsRows_any (.slice a0 G.length cap) G (w.alloc (.cells #[.slice a0 G.length cap] 55)) (by omega) (row_len hn) (hv'.out.below hB0)
  have hx : rowsB G = (inB (G.length : Int) 1 8 && allK (rowOk G) G.length) := rfl
  cases h1 : inB (G.length : Int) 1 8 <;> rw [h1] at cW hx <;> replace cW := Lib.hid cW
  · rw [hx]
    clear hread cC
    go_enter Try.func45, Try.ntmps45
    go_wp2_with (go_at_call 83; (with_reducible refine (cW.out _).mono ?_); rintro e w1 ⟨rfl, rfl⟩)
    go_ret3
    exact ⟨ret_int3 rfl rfl rfl, hB0⟩
  cases h2 : allK (rowOk G) G.length <;> rw [h2] at cC hx <;> replace cC := Lib.hid cC
  · rw [hx]
    clear hread
    go_enter Try.func45, Try.ntmps45
    go_wp2_with (first
      | (go_at_call 83; (with_reducible refine (cW.out _).mono ?_); rintro e w1 ⟨rfl, rfl⟩)
      | (go_at_call 84; (with_reducible refine cC.out.mono ?_); rintro e w2 ⟨rfl, b2⟩))
    go_ret3
    exact ⟨ret_int3 rfl rfl rfl, below2 hB0 b2⟩
  have hok : rowsB G = true := hx
  have hb := rows_bd hok
  have hil : bpI G < G.length := fgI_lt _ (by omega)
  have hrr := ring_bd (hb.2.2 _ hil)
  have cF0 := fun W (hbW : Below (w.alloc (.cells #[.slice a0 G.length cap] 55)).heap.size (w.alloc (.cells #[.slice a0 G.length cap] 55)) W) => firstGreatest_any 85 #[.pointer (some ⟨w.heap.size, 0, none⟩)] G.length (fun i => rwM (rwAt G i)) W (enters_of Try.func85 (by kernel_rfl) rfl) (by omega) (by omega) (fun W2 i hW hi =>
    bp2_any w.heap.size (.slice a0 G.length cap) G i W2 hi hok ((hW.cell (p := ⟨w.heap.size, 0, none⟩) (Nat.lt_of_lt_of_le hsz hbW.size)).trans ((hbW.cell (p := ⟨w.heap.size, 0, none⟩) hsz).trans q1)) (((hv'.out.below hB0).below hbW).below hW))
  rcases hread with h | ⟨g, o, rfl, hg, hc⟩
  · subst h; simp at hil
  have hrow := Lib.hid (fun W (hbW : Below w.heap.size w W) => grid_row hbW hg hc hil)
  have hiI : ((bpI G : Nat) : Int) < (G.length : Int) := by omega
  have cX := Lib.hid (fun u W (hu : IntsAt W u (rwAt G (bpI G))) => indexOf_any u (rwAt G (bpI G)) W (by omega) (by omega) hu)
  have hmm : Hid (rwM (rwAt G (bpI G)) = rwM (rwAt G (fgI (fun i => rwM (rwAt G i)) G.length))) := Lib.hid rfl
  have hK : Hid (rwI (rwAt G (bpI G)) = bpK G) := Lib.hid rfl
  have hq : fgI (fun i => rwM (rwAt G i)) G.length = bpI G := rfl
  rw [hok]
  simp only [hq] at cF0
  obtain ⟨q, hq2⟩ : ∃ q, q = bpI G := ⟨_, rfl⟩
  rw [← hq2] at cF0 hrow cX hiI hK hil ⊢
  obtain ⟨m, hm⟩ : ∃ m, m = rwM (rwAt G q) := ⟨_, rfl⟩
  rw [← hm] at cF0 cX
  have cF := Lib.hid cF0
  clear cF0 hc hm hq hq2 hmm hrr hb hok hx h1 h2
  go_enter Try.func45, Try.ntmps45
  go_wp2_with fail
  generalize (w.alloc (.cells #[.slice (some ⟨g, o, none⟩) G.length cap] 55)) = W0 at hB0 q1 hsz cC cF ⊢
  go_wp2_with (first
    | (go_at_call 83; (with_reducible refine (cW.out _).mono ?_); rintro e w1 ⟨rfl, rfl⟩)
    | (go_at_call 84; (with_reducible refine cC.out.mono ?_); rintro e w2 ⟨rfl, b2⟩; have q2 := (b2.cell (p := ⟨w.heap.size, 0, none⟩) hsz).trans q1)
    | (go_at_call 69; (with_reducible refine (cF.out _ b2).mono ?_); rintro e w3 ⟨rfl, b3⟩; have b23 := below2 b2 b3; have q3 := (b23.cell (p := ⟨w.heap.size, 0, none⟩) hsz).trans q1; obtain ⟨u, c0, hu⟩ := hrow.out _ (below2 hB0 b23); have cX2 := Lib.hid (cX.out u _ hu); obtain ⟨a1, cap1, rfl, hcap1, _, _⟩ := hu)
    | (go_at_call 87; (with_reducible refine cX2.out.mono ?_); rintro e w4 ⟨rfl, rfl⟩))
  go_ret3
  exact ⟨ret_int3 rfl (by rw [hK.out]; rfl) rfl, below2 hB0 (below2 b2 b3)⟩
set_option maxHeartbeats 6400000 in
theorem specBestPost_any (v : Value) (G : List (List Int)) (w : World) (hn : G.length + totL G ≤ 1048576) (hv : GridAt w v G) : Calls Try.prog 43 #[v] w fun e w' => e = .returned (.tuple #[.int .i64 (pick (rowsB G) (bpI G : Nat)), .int .i64 (pick (rowsB G) (bpK G : Nat)), .int .i64 (code (rowsB G) 2)]) ∧ Below w.heap.size w w' := by
  have hx : rowsB G = (inB (G.length : Int) 1 8 && allK (rowOk G) G.length) := rfl
  have hrl := row_len hn
  obtain ⟨a0, cap, rfl, hcap, hread⟩ := hv
  by_cases hl1 : G.length < 1
  · have h1 : inB (G.length : Int) 1 8 = false := by unfold inB; rw [decide_eq_false (by omega)]; rfl
    rw [h1] at hx
    rw [hx]
    clear hread
    have hI : (G.length : Int) < 1 := by omega
    go_enter Try.func43, Try.ntmps43
    go_wp2
    go_ret3
    exact ⟨ret_int3 rfl rfl rfl, Below.refl _ _⟩
  have hI : ¬ (G.length : Int) < 1 := by omega
  by_cases hl8 : 8 < G.length
  · have h1 : inB (G.length : Int) 1 8 = false := by unfold inB; rw [decide_eq_false (show ¬ (G.length : Int) ≤ 8 by omega), Bool.and_false]
    rw [h1] at hx
    rw [hx]
    clear hread
    have hJ : (8 : Int) < (G.length : Int) := by omega
    go_enter Try.func43, Try.ntmps43
    go_wp2
    go_ret3
    exact ⟨ret_int3 rfl rfl rfl, Below.refl _ _⟩
  have hJ : ¬ (8 : Int) < (G.length : Int) := by omega
  have h1 : inB (G.length : Int) 1 8 = true := inB_iff.2 (by omega)
  rw [h1, Bool.true_and] at hx
  rcases hread with h | ⟨g, o, rfl, hg, hc⟩
  · subst h; simp at hl1
  have hrow := Lib.hid (fun W (hbW : Below w.heap.size w W) i (hi : i < G.length) => grid_row hbW hg hc hi)
  have hbad : Hid (∀ i, i < G.length → rowOk G i = false → pick (rowsB G) ((bpI G : Nat) : Int) = 0 ∧ pick (rowsB G) ((bpK G : Nat) : Int) = 0 ∧ code (rowsB G) 2 = 2) := Lib.hid (fun i hi h => by rw [hx, allK_no h hi]; exact ⟨rfl, rfl, rfl⟩)
  have hgood : Hid (allK (rowOk G) G.length = true → (((bpP G G.length).1 : Nat) : Int) = pick (rowsB G) ((bpI G : Nat) : Int) ∧ (((bpP G G.length).2 : Nat) : Int) = pick (rowsB G) ((bpK G : Nat) : Int) ∧ (0 : Int) = code (rowsB G) 2) := Lib.hid (fun h => by
    have hp : ∀ j, j < G.length → 0 < (rwAt G j).length := fun j hj => (ring_bd ((allK_iff _ _).1 h j hj)).1
    rw [hx, h, bp_all G (by omega) hp]
    exact ⟨rfl, rfl, rfl⟩)
  have hpos : Hid (∀ n, allK (rowOk G) n = true → ∀ j, j < n → 0 < (rwAt G j).length) := Lib.hid (fun n h j hj => (ring_bd ((allK_iff _ _).1 h j hj)).1)
  have hrl' := Lib.hid hrl
  obtain ⟨A, hA⟩ : ∃ A, A = pick (rowsB G) ((bpI G : Nat) : Int) := ⟨_, rfl⟩
  obtain ⟨B, hB⟩ : ∃ B, B = pick (rowsB G) ((bpK G : Nat) : Int) := ⟨_, rfl⟩
  obtain ⟨C, hC⟩ : ∃ C, C = code (rowsB G) 2 := ⟨_, rfl⟩
  rw [← hA, ← hB, ← hC] at hbad hgood ⊢
  clear hc hx hA hB hC hrl
  go_enter Try.func43, Try.ntmps43
  go_wp2
  go_loopw [5, 6, 7] (fun r c i wr => ∃ n x y : Nat, n ≤ G.length ∧ i = .int .i64 n ∧ r = .int .i64 x ∧ c = .int .i64 y ∧ Hid (bpP G n = (x, y)) ∧ Hid (allK (rowOk G) n = true) ∧ DrewOf w wr) (fun _ _ i _ => G.length - (intOf i).toNat)
  case atStart => exact ⟨0, 0, 0, by omega, rfl, rfl, rfl, Lib.hid rfl, Lib.hid rfl, DrewOf.refl _⟩
  case round =>
    obtain ⟨n, x, y, hnl, rfl, rfl, rfl, hb, hall, hd⟩ := hrel
    by_cases hlt : n < G.length
    · have hltI : (n : Int) < (G.length : Int) := by omega
      obtain ⟨u, c0, hu⟩ := hrow.out wr hd.below n hlt
      have hul := hrl'.out n hlt
      obtain ⟨a1, cap1, rfl, hcap1, hids1, hread1⟩ := hu
      have hst : Hid (rowOk G n = (inB ((rwAt G n).length : Int) 1 8 && allK (ringOk (rwAt G n)) (rwAt G n).length)) := Lib.hid rfl
      obtain ⟨H, hH⟩ : ∃ H, H = rwAt G n := ⟨_, rfl⟩
      rw [← hH] at c0 hul hcap1 hids1 hread1 hst
      by_cases hm1 : H.length < 1
      · have hbd := Lib.hid (hbad.out n hlt (by rw [hst.out, show inB (H.length : Int) 1 8 = false by unfold inB; rw [decide_eq_false (by omega)]; rfl]; rfl))
        have hmI : (H.length : Int) < 1 := by omega
        clear hread1 hids1 hH
        go_wp2
        go_ret3
        exact ⟨ret_int3 hbd.out.1.symm hbd.out.2.1.symm hbd.out.2.2.symm, hd.below⟩
      have hmI : ¬ (H.length : Int) < 1 := by omega
      by_cases hm8 : 8 < H.length
      · have hbd := Lib.hid (hbad.out n hlt (by rw [hst.out, show inB (H.length : Int) 1 8 = false by unfold inB; rw [decide_eq_false (show ¬ (H.length : Int) ≤ 8 by omega), Bool.and_false]]; rfl))
        have hmJ : (8 : Int) < (H.length : Int) := by omega
        clear hread1 hids1 hH
        go_wp2
        go_ret3
        exact ⟨ret_int3 hbd.out.1.symm hbd.out.2.1.symm hbd.out.2.2.symm, hd.below⟩
      have hmJ : ¬ (8 : Int) < (H.length : Int) := by omega
      have h18 : inB (H.length : Int) 1 8 = true := inB_iff.2 (by omega)
      rw [h18, Bool.true_and] at hst
      rcases hread1 with h | ⟨g1, o1, rfl, hg1, hc1⟩
      · subst h; simp at hm1
      have hcel := Lib.hid (fun W (hbW : Below wr.heap.size wr W) k (hk : k < H.length) => ring_cell hbW hg1 hc1 hk)
      have hp0 := hpos.out n hall.out
      have hbl := bpP_lt G n hp0
      rw [hb.out] at hbl
      have hsc : Hid (∀ m, m ≤ H.length → (scP G n (x, y) m).1 ≤ n ∧ (scP G n (x, y) m).2 < (rwAt G (scP G n (x, y) m).1).length) := Lib.hid (fun m hm => by
        have hxy : x ≤ n ∧ (x < n → y < (rwAt G x).length) ∧ (x = n → y = 0) := by
          rcases Nat.eq_zero_or_pos n with h0 | h0
          · have := hbl.2 h0
            injection this with e1 e2
            exact ⟨by omega, fun h => by omega, fun _ => e2⟩
          · have := hbl.1 h0
            exact ⟨by have := this.1; simp only at this; omega, fun _ => this.2, fun h => by have := this.1; simp only at this; omega⟩
        exact scP_lt G n (x, y) hxy.1 hxy.2.1 hxy.2.2 (by rw [← hH]; omega) m (by rw [← hH]; exact hm))
      have hnext : Hid (bpP G (n + 1) = scP G n (x, y) H.length) := Lib.hid (by show scP G n (bpP G n) _ = _; rw [hb.out, hH])
      have hHr : Hid (∀ k, rgAt (rwAt G n) k = rgAt H k) := Lib.hid (fun k => by rw [hH])
      clear hc1 hids1 hH hbl hp0 hb
      go_wp2
      go_loopw [5, 6, 8] (fun r c i wr2 => ∃ m x2 y2 : Nat, m ≤ H.length ∧ i = .int .i64 m ∧ r = .int .i64 x2 ∧ c = .int .i64 y2 ∧ Hid (scP G n (x, y) m = (x2, y2)) ∧ Hid (allK (ringOk H) m = true) ∧ DrewOf wr wr2) (fun _ _ i _ => H.length - (intOf i).toNat)
      case atStart => exact ⟨0, x, y, by omega, rfl, rfl, rfl, Lib.hid rfl, Lib.hid rfl, DrewOf.refl _⟩
      case round =>
        obtain ⟨m, x2, y2, hm, rfl, rfl, rfl, hs, hok, hd2⟩ := hrel
        have c0' := (hd2.cell _).trans c0
        by_cases hlt2 : m < H.length
        · have hmI2 : (m : Int) < (H.length : Int) := by omega
          have ci := hcel.out _ hd2.below m hlt2
          have hst2 : Hid (ringOk H m = inB (rgAt H m) 0 1000) := Lib.hid rfl
          have hsl := hsc.out m (by omega)
          have hstep : Hid (scP G n (x, y) (m + 1) = if rgAt (rwAt G x2) y2 < rgAt H m then (n, m) else (x2, y2)) := Lib.hid (by
            show (if rgAt (rwAt G (scP G n (x, y) m).1) (scP G n (x, y) m).2 < rgAt (rwAt G n) m then (n, m) else scP G n (x, y) m) = _
            rw [hs.out, hHr.out])
          rw [hs.out] at hsl
          obtain ⟨u2, c2, hu2⟩ := hrow.out _ (hd.trans hd2).below x2 (by have := hsl.1; simp only at this; omega)
          obtain ⟨a2, cap2, rfl, hcap2, hids2, hread2⟩ := hu2
          have hyl : y2 < (rwAt G x2).length := hsl.2
          have hx2G : (x2 : Int) < (G.length : Int) := by have := hsl.1; simp only at this; omega
          rcases hread2 with h | ⟨g2, o2, rfl, hg2, hc2⟩
          · rw [h] at hyl; simp at hyl
          have cy := ring_cell (Below.refl _ _) hg2 hc2 hyl
          have hyI : (y2 : Int) < ((rwAt G x2).length : Int) := by omega
          obtain ⟨va, hva⟩ : ∃ z, z = rgAt H m := ⟨_, rfl⟩
          obtain ⟨vb, hvb⟩ : ∃ z, z = rgAt (rwAt G x2) y2 := ⟨_, rfl⟩
          obtain ⟨K, hK⟩ : ∃ K, K = rwAt G x2 := ⟨_, rfl⟩
          rw [← hva] at ci hst2 hstep
          rw [← hvb] at cy hstep
          rw [← hK] at c2 hyI
          have cT0 := fun W => l12Way_any va W
          clear hva hvb hsl hc2 hids2 hcap2 hyl hK
          cases hcmp : inB va 0 1000 <;> rw [hcmp] at cT0 hst2 <;> have cT := Lib.hid cT0 <;> clear cT0
          · have hbd := Lib.hid (hbad.out n hlt (by rw [hst.out]; exact allK_no hst2.out hlt2))
            go_wp2_with (go_at_call 80; (with_reducible refine (cT.out _).mono ?_); rintro e w' ⟨rfl, rfl⟩)
            go_ret3
            exact ⟨ret_int3 hbd.out.1.symm hbd.out.2.1.symm hbd.out.2.2.symm, (hd.trans hd2).below⟩
          · have hall2 : Hid (allK (ringOk H) (m + 1) = true) := Lib.hid (allK_yes hok.out hst2.out)
            by_cases hgt : vb < va
            · have hnew : Hid (scP G n (x, y) (m + 1) = (n, m)) := Lib.hid (by rw [hstep.out, if_pos hgt])
              go_wp2_with (go_at_call 80; (with_reducible refine (cT.out _).mono ?_); rintro e w' ⟨rfl, rfl⟩)
              go_quiet (fail)
              go_wp2
              go_roundw
              case rel => exact ⟨m + 1, n, m, by omega, by go_num, rfl, rfl, hnew, hall2, hd2.more _⟩
              case measure => simp [intOf]; omega
            · have hnew : Hid (scP G n (x, y) (m + 1) = (x2, y2)) := Lib.hid (by rw [hstep.out, if_neg hgt])
              go_wp2_with (go_at_call 80; (with_reducible refine (cT.out _).mono ?_); rintro e w' ⟨rfl, rfl⟩)
              go_quiet (fail)
              go_wp2
              go_roundw
              case rel => exact ⟨m + 1, x2, y2, by omega, by go_num, rfl, rfl, hnew, hall2, hd2.more _⟩
              case measure => simp [intOf]; omega
        · have hml : m = H.length := by omega
          have hall2 : Hid (allK (rowOk G) (n + 1) = true) := Lib.hid (allK_yes hall.out (by rw [hst.out, ← hml]; exact hok.out))
          have hnew : Hid (bpP G (n + 1) = (x2, y2)) := Lib.hid (by rw [hnext.out, ← hml]; exact hs.out)
          have hmJ2 : ¬ (m : Int) < (H.length : Int) := by omega
          clear hml
          go_wp2
          go_roundw
          case rel => exact ⟨n + 1, x2, y2, by omega, by go_num, rfl, rfl, hnew, hall2, hd.trans hd2⟩
          case measure => simp [intOf]; omega
    · obtain rfl : n = G.length := by omega
      have hgd := hgood.out hall.out
      rw [hb.out] at hgd
      have hgd' := Lib.hid hgd
      clear hgd
      go_wp2
      go_ret3
      exact ⟨ret_int3 hgd'.out.1 hgd'.out.2.1 hgd'.out.2.2, hd.below⟩
end Go.Proofs.Ytjnpladpegmiiaa
