/-
  The program's drying: the first day as wanted, the days that are counted.
-/
import Derived.Test.YtemccejlophmkaaDoorDry4
namespace Go.Proofs.YtemccejlophmkaaDoor
open Go.ChangeShapes Go.WideShapes Go.ChangeAt Go.RowKit Go.Deep
set_option linter.unusedVariables false
set_option linter.unusedSimpArgs false
attribute [local go_sem] Oper.semAt_some
theorem dryP_any (d m g z : Int) (bg : Nat) (W : World) (hg : W.cell? ⟨bg, 0, none⟩ = some (.int .i64 z)) : Calls Tryd.prog 28 #[.agg #[.int .i64 d, .int .i64 m, .int .i64 g], .pointer (some ⟨bg, 0, none⟩)] W fun e w' => e = .returned (.bool (decide (m ≤ z))) ∧ Below W.heap.size W w' := by
  have hlt : bg < W.heap.size := World.block_lt_of_cell? W _ hg
  by_cases h : m ≤ z
  all_goals
    go_enter Tryd.func28, Tryd.ntmps28
    go_wp2
    go_ret
    exact ⟨ret_bool (by simp [h]), (Below.refl _ _).alloc (Nat.le_refl _) _⟩
def crP (z : Int) (x : Int × Int × Int) : Bool := decide (z < x.2.2 ∨ z < -x.2.2)
theorem crkP_any (d m g z : Int) (h0 : -1000 ≤ g) (h1 : g ≤ 1000) (bg : Nat) (W : World) (hg : W.cell? ⟨bg, 0, none⟩ = some (.int .i64 z)) : Calls Tryd.prog 31 #[.agg #[.int .i64 d, .int .i64 m, .int .i64 g], .pointer (some ⟨bg, 0, none⟩)] W fun e w' => e = .returned (.bool (crP z (d, m, g))) ∧ Below W.heap.size W w' := by
  have hlt : bg < W.heap.size := World.block_lt_of_cell? W _ hg
  have hx : Hid (crP z (d, m, g) = decide (z < g ∨ z < -g)) := Lib.hid rfl
  by_cases h : g ≤ -g
  · by_cases k : z < -g
    all_goals
      go_enter Tryd.func31, Tryd.ntmps31
      go_wp2
      all_goals
        go_ret
        exact ⟨ret_bool (by rw [hx.out]; simp <;> omega), (Below.refl _ _).alloc (Nat.le_refl _) _⟩
  · by_cases k : z < g
    all_goals
      go_enter Tryd.func31, Tryd.ntmps31
      go_wp2
      all_goals
        go_ret
        exact ⟨ret_bool (by rw [hx.out]; simp <;> omega), (Below.refl _ _).alloc (Nat.le_refl _) _⟩
/-- the least k below n as wanted -/
def fstK (p : Nat → Bool) (n : Nat) : Option Nat := (List.range n).find? p
theorem fstK_some {p : Nat → Bool} {n k : Nat} (hk : k < n) (hp : p k = true) (hno : ∀ j, j < k → p j = false) : fstK p n = some k := by
  unfold fstK; rw [List.find?_range_eq_some]; exact ⟨hp, List.mem_range.2 hk, fun j hj => by rw [hno j hj]; rfl⟩
theorem fstK_none {p : Nat → Bool} {n : Nat} (hno : ∀ j, j < n → p j = false) : fstK p n = none := by
  unfold fstK; rw [List.find?_range_eq_none]; intro j hj; rw [hno j hj]; rfl
theorem dryL_get (m v t : Int) (n k : Nat) (h : k ≤ n) : (dryL m v t n)[k]? = some (dryE m v t k) := by
  unfold dryL; rw [List.getElem?_map, List.getElem?_range (by omega)]; rfl
theorem pre_get {m v t : Int} {n : Nat} {pre : List (Int × Int × Int)} {x : Int × Int × Int} (h : pre ++ [x] <+: dryL m v t n) : x = dryE m v t pre.length ∧ pre.length ≤ n := by
  have hl := h.length_le
  rw [dryL_len] at hl
  simp at hl
  have h1 : (dryL m v t n)[pre.length]? = some x := by
    obtain ⟨r, hr⟩ := h
    rw [← hr]; simp
  rw [dryL_get m v t n _ (by omega)] at h1
  exact ⟨(Option.some.inj h1).symm, by omega⟩
set_option maxRecDepth 100000 in
set_option maxHeartbeats 3200000 in
theorem count_any (bx bd be bg : Nat) (s : ByteArray) (a : Int) (b : Int) (c : Int) (dd v z : Int) (ha0 : 0 ≤ a) (ha1 : a ≤ 1000) (hb0 : 10 ≤ b) (hb1 : b ≤ 1000) (hv0 : 0 ≤ v) (hv1 : v ≤ 1000) (hd0 : 0 ≤ dd) (hd1 : dd ≤ 4000) (w : World) (hx : StkAt w bx 0 ⟨s, a, b, c⟩) (hd : w.cell? ⟨bd, 0, none⟩ = some (.int .i64 dd)) (he : w.cell? ⟨be, 0, none⟩ = some (.int .i64 v)) (hg : w.cell? ⟨bg, 0, none⟩ = some (.int .i64 z)) : Calls Tryd.prog 30 #[.func (.func 45) #[] #[.pointer (some ⟨bx, 0, none⟩), .pointer (some ⟨bd, 0, none⟩), .pointer (some ⟨be, 0, none⟩)], .func (.func 31) #[] #[.pointer (some ⟨bg, 0, none⟩)]] w fun e w' => e = .returned (.int .i64 (((dryL a v b dd.toNat).countP (crP z) : Nat) : Int)) ∧ Below w.heap.size w w' := by
  have hbx : bx < w.heap.size := World.block_lt_of_cell? w _ hx.1
  have hbd : bd < w.heap.size := World.block_lt_of_cell? w _ hd
  have hbe : be < w.heap.size := World.block_lt_of_cell? w _ he
  have hbg : bg < w.heap.size := World.block_lt_of_cell? w _ hg
  refine (callsIn_wide (n := 3)).1 ?_
  refine callsIn_of_wp_marks Tryd.func30 rfl trivial ?_ rfl
  simp only [Tryd.ntmps30, List.size_toArray, List.length_cons, List.length_nil, Nat.reduceAdd, Nat.reduceSub, Array.replicate_succ, Array.replicate_zero, List.push_toArray, List.append_toArray, List.nil_append, List.cons_append]
  have g2 : ((w.alloc (.cells #[.func (.func 31) #[] #[.pointer (some ⟨bg, 0, none⟩)]] 54)).alloc (.cells #[.int .i64 0] 2)).heap[w.heap.size]? = some (.cells #[.func (.func 31) #[] #[.pointer (some ⟨bg, 0, none⟩)]] 54 (0, 0)) := (Below.heap_alloc _ _ _ (by simp)).trans (heap_alloc_new _ _)
  have g3 : ((w.alloc (.cells #[.func (.func 31) #[] #[.pointer (some ⟨bg, 0, none⟩)]] 54)).alloc (.cells #[.int .i64 0] 2)).heap[w.heap.size + 1]? = some (.cells #[.int .i64 0] 2 (0, 0)) := by
    have := heap_alloc_new (w.alloc (.cells #[.func (.func 31) #[] #[.pointer (some ⟨bg, 0, none⟩)]] 54)) (.cells #[.int .i64 0] 2)
    simpa using this
  have gB : Below w.heap.size w ((w.alloc (.cells #[.func (.func 31) #[] #[.pointer (some ⟨bg, 0, none⟩)]] 54)).alloc (.cells #[.int .i64 0] 2)) := ((Below.refl _ _).alloc (Nat.le_refl _) _).alloc (by simp) _
  have gz : ((w.alloc (.cells #[.func (.func 31) #[] #[.pointer (some ⟨bg, 0, none⟩)]] 54)).alloc (.cells #[.int .i64 0] 2)).heap.size = w.heap.size + 2 := by simp
  gi_wp2
  have hseq := drying1_seq 2 bx bd be (w.heap.size + 1) s a b c dd v ha0 ha1 hb0 hb1 hv0 hv1 hd0 hd1 (by omega) (by omega) (by omega) _ (by omega) (hx.below hbx gB) ((gB.cell (p := ⟨bd, 0, none⟩) hbd).trans hd) ((gB.cell (p := ⟨be, 0, none⟩) hbe).trans he)
  refine rangeB (gf := 45) (lb := #[.pointer (some ⟨bx, 0, none⟩), .pointer (some ⟨bd, 0, none⟩), .pointer (some ⟨be, 0, none⟩)]) (encs := fun x => #[encD x]) (b := w.heap.size + 1) rfl (enters_of Tryd.func45 (by kernel_rfl) rfl) (by omega) (fun _ => rfl) hseq
    (fun pre W => (W.heap[w.heap.size]? = some (.cells #[.func (.func 31) #[] #[.pointer (some ⟨bg, 0, none⟩)]] 54 (0, 0)) ∧ W.heap[w.heap.size + 1]? = some (.cells #[.int .i64 ((pre.countP (crP z) : Nat) : Int)] 2 (0, 0))) ∧ Below w.heap.size w W)
    (fun _ _ _ => False)
    (fun s A B h hAB => ⟨⟨low_heap h.1.1 (by omega) hAB, low_heap h.1.2 (by omega) hAB⟩, h.2.trans (hAB.mono (by omega))⟩)
    (fun _ _ _ _ h _ => h)
    ⟨⟨g2, g3⟩, gB⟩
    (fun x B => { tmps := #[.func (.func 45) #[] #[.pointer (some ⟨bx, 0, none⟩), .pointer (some ⟨bd, 0, none⟩), .pointer (some ⟨be, 0, none⟩)], .func (.func 31) #[] #[.pointer (some ⟨bg, 0, none⟩)], undef, .pointer (some ⟨w.heap.size, 0, none⟩), .int .i64 0, .pointer (some ⟨w.heap.size + 1, 0, none⟩), .pointer (some ⟨B, 0, none⟩), .func (.func 45) #[] #[.pointer (some ⟨bx, 0, none⟩), .pointer (some ⟨bd, 0, none⟩), .pointer (some ⟨be, 0, none⟩)], encD x, undef, undef, undef, undef, undef, undef], defers := [] })
    csD 48 ?assign ?body ?done ?stop
  case assign =>
    rintro l ⟨d, m, g⟩ W K hK
    dsimp only [encD, csD] at hK ⊢
    gi_wp2
    exact hK
  case body =>
    rintro l B pre ⟨d, m, g⟩ W hpre hl hlB ⟨⟨i2, i3⟩, iB⟩ hBx hWz
    obtain ⟨hxe, hpl⟩ := pre_get hpre
    have hgb : -1000 ≤ g ∧ g ≤ 1000 := by
      cases hk : pre.length with
      | zero => rw [hk] at hxe; injection hxe with e1 e2; injection e2 with e3 e4; omega
      | succ k =>
        rw [hk] at hxe; injection hxe with e1 e2; injection e2 with e3 e4
        rw [e4]; exact chg_in hb0 (dry_in hb0 ⟨ha0, ha1⟩ ⟨hv0, hv1⟩ k) ⟨hv0, hv1⟩
    have hcl : pre.countP (crP z) ≤ 4001 := Nat.le_trans (List.countP_le_length) (by omega)
    have hsn : Hid ((pre ++ [(d, m, g)]).countP (crP z) = pre.countP (crP z) + (if crP z (d, m, g) then 1 else 0)) := Lib.hid (by rw [List.countP_append]; cases h : crP z (d, m, g) <;> simp [h])
    have hgW : W.cell? ⟨bg, 0, none⟩ = some (.int .i64 z) := (iB.cell (p := ⟨bg, 0, none⟩) hbg).trans hg
    clear hxe hpre
    generalize pre.countP (crP z) = cn at i3 hcl hsn
    have cC0 := crkP_any d m g z hgb.1 hgb.2 bg W hgW
    dsimp only [csD] at hBx
    dsimp only [encD]
    have c0 := cellB hBx 0 _ rfl
    have c1 := cellB hBx 1 _ rfl
    have c2 := cellB hBx 2 _ rfl
    have f0 := cellB i2 0 _ rfl
    cases hp : crP z (d, m, g)
    all_goals
      rw [hp] at cC0 hsn
      have cC := Lib.hid cC0
      clear cC0 hgW
      gi_wp2_with fail
      refine ⟨trivial, (CallsIn.inRound l (callsIn_wide.2 cC.out)).mono ?_⟩
      rintro e W2 ⟨rfl, b2⟩
      have j2 : W2.heap[w.heap.size]? = some (.cells #[.func (.func 31) #[] #[.pointer (some ⟨bg, 0, none⟩)]] 54 (0, 0)) := (b2.block _ (lt_of_some i2)).trans i2
      have j3 : W2.heap[w.heap.size + 1]? = some (.cells #[.int .i64 cn] 2 (0, 0)) := (b2.block _ (lt_of_some i3)).trans i3
      have d0 := cellB j3 0 _ rfl
      have r0 := freeB j3 0
      clear c0 c1 c2 f0
      gi_wp2
    · exact ⟨KeepsFrom.below b2, CellsBut.of_below b2, ⟨j2, by rw [hsn.out]; exact j3⟩, below2 iB (b2)⟩
    · refine ⟨(KeepsFrom.below b2).trans ((KeepsOthers.setCell _ _ _).from _), (CellsBut.of_below b2).trans (CellsBut.setCell _ ⟨w.heap.size + 1, 0, none⟩ rfl _), ⟨(Below.heap_setCell _ _ _ _ (by simp)).trans j2, ?_⟩, (below2 iB b2).setCell (p := ⟨w.heap.size + 1, 0, none⟩) (by simp) _⟩
      rw [hsn.out]; exact heap_set j3 0 _ _ rfl
  case done =>
    rintro K W hK ⟨⟨i2, i3⟩, iB⟩ hD
    have f0 := cellB i3 0 _ rfl
    have hK2 : w.heap.size + 2 ≤ K := by simpa using hK
    gi_wp2
    refine ⟨by simp, .inl ⟨_, _, rfl, run_takeDeferred hD, ?_⟩⟩
    exact ⟨_, results_tmp rfl _ _ _, rfl, iB.trans (below_put _ _ (by omega) (by have := lt_of_some i2; omega))⟩
  case stop =>
    rintro K c pre W _ _ h _
    exact h.elim
end Go.Proofs.YtemccejlophmkaaDoor
