/-
  The program's drying: the last day, the first day as wanted, the days that are counted.
-/
import Derived.Test.YtjgpckocmjolmaaDoorDry2
namespace Go.Proofs.YtjgpckocmjolmaaDoor
open Go.ChangeShapes Go.WideShapes Go.ChangeAt Go.RowKit Go.Deep
set_option linter.unusedVariables false
set_option linter.unusedSimpArgs false
attribute [local go_sem] Oper.semAt_some
def csD (x : Int × Int × Int) : Array Value := #[.int .i64 x.1, .int .i64 x.2.1, .int .i64 x.2.2]
theorem low_heap {n k : Nat} {o : Obj} {A B : World} (h : A.heap[k]? = some o) (hk : k < n) (hb : Below n A B) : B.heap[k]? = some o := (hb.block _ hk).trans h
/-- three stores into a box of three -/
theorem heap_set3 {w : World} {b : Nat} {x y z x' y' z' : Value} {t : TypeId} (h : w.heap[b]? = some (.cells #[x, y, z] t (0, 0))) : (((w.setCell ⟨b, 0, none⟩ x').setCell ⟨b, 1, none⟩ y').setCell ⟨b, 2, none⟩ z').heap[b]? = some (.cells #[x', y', z'] t (0, 0)) :=
  heap_set (heap_set (heap_set h 0 x' _ rfl) 1 y' _ rfl) 2 z' _ rfl
theorem other3 {w : World} {b k : Nat} {x y z : Value} (hk : k ≠ b) : (((w.setCell ⟨b, 0, none⟩ x).setCell ⟨b, 1, none⟩ y).setCell ⟨b, 2, none⟩ z).heap[k]? = w.heap[k]? := by
  rw [Below.heap_setCell _ _ _ _ hk, Below.heap_setCell _ _ _ _ hk, Below.heap_setCell _ _ _ _ hk]
theorem below3 {n b : Nat} {a w : World} (h : Below n a w) (hb : n ≤ b) (x y z : Value) : Below n a (((w.setCell ⟨b, 0, none⟩ x).setCell ⟨b, 1, none⟩ y).setCell ⟨b, 2, none⟩ z) :=
  ((h.setCell (p := ⟨b, 0, none⟩) hb x).setCell (p := ⟨b, 1, none⟩) hb y).setCell (p := ⟨b, 2, none⟩) hb z
theorem from3 (n b : Nat) (w : World) (x y z : Value) : KeepsFrom n w (((w.setCell ⟨b, 0, none⟩ x).setCell ⟨b, 1, none⟩ y).setCell ⟨b, 2, none⟩ z) :=
  (((KeepsOthers.setCell w _ x).trans (KeepsOthers.setCell _ _ y)).trans (KeepsOthers.setCell _ _ z)).from n
theorem but3 (b : Nat) (w : World) (x y z : Value) : CellsBut b w (((w.setCell ⟨b, 0, none⟩ x).setCell ⟨b, 1, none⟩ y).setCell ⟨b, 2, none⟩ z) :=
  ((CellsBut.setCell w ⟨b, 0, none⟩ rfl x).trans (CellsBut.setCell _ ⟨b, 1, none⟩ rfl y)).trans (CellsBut.setCell _ ⟨b, 2, none⟩ rfl z)
theorem dryL_last (m v t : Int) (n : Nat) : (dryL m v t n).getLastD (0, 0, 0) = dryE m v t n := by
  cases n with
  | zero => rfl
  | succ n => rw [dryL_snoc]; simp
set_option maxRecDepth 100000 in
set_option maxHeartbeats 3200000 in
theorem last_any (bx bd be : Nat) (s : ByteArray) (a : Int) (b : Int) (c : Int) (dd v : Int) (ha0 : 0 ≤ a) (ha1 : a ≤ 1000) (hb0 : 10 ≤ b) (hb1 : b ≤ 1000) (hv0 : 0 ≤ v) (hv1 : v ≤ 1000) (hd0 : 0 ≤ dd) (hd1 : dd ≤ 4000) (w : World) (hx : StkAt w bx 0 ⟨s, a, b, c⟩) (hd : w.cell? ⟨bd, 0, none⟩ = some (.int .i64 dd)) (he : w.cell? ⟨be, 0, none⟩ = some (.int .i64 v)) : Calls Tryd.prog 37 #[.func (.func 44) #[] #[.pointer (some ⟨bx, 0, none⟩), .pointer (some ⟨bd, 0, none⟩), .pointer (some ⟨be, 0, none⟩)]] w fun e w' => e = .returned (encD (dryE a v b dd.toNat)) ∧ Below w.heap.size w w' := by
  have hbx : bx < w.heap.size := World.block_lt_of_cell? w _ hx.1
  have hbd : bd < w.heap.size := World.block_lt_of_cell? w _ hd
  have hbe : be < w.heap.size := World.block_lt_of_cell? w _ he
  refine (callsIn_wide (n := 3)).1 ?_
  refine callsIn_of_wp_marks Tryd.func37 rfl trivial ?_ rfl
  simp only [Tryd.ntmps37, List.size_toArray, List.length_cons, List.length_nil, Nat.reduceAdd, Nat.reduceSub, Array.replicate_succ, Array.replicate_zero, List.push_toArray, List.append_toArray, List.nil_append, List.cons_append]
  have g2 : ((w.alloc (.cells #[.int .i64 0, .int .i64 0, .int .i64 0] 56)).alloc (.cells #[.int .i64 0, .int .i64 0, .int .i64 0] 56)).heap[w.heap.size]? = some (.cells #[.int .i64 0, .int .i64 0, .int .i64 0] 56 (0, 0)) := (Below.heap_alloc _ _ _ (by simp)).trans (heap_alloc_new _ _)
  have g3 : ((w.alloc (.cells #[.int .i64 0, .int .i64 0, .int .i64 0] 56)).alloc (.cells #[.int .i64 0, .int .i64 0, .int .i64 0] 56)).heap[w.heap.size + 1]? = some (.cells #[.int .i64 0, .int .i64 0, .int .i64 0] 56 (0, 0)) := by
    have := heap_alloc_new (w.alloc (.cells #[.int .i64 0, .int .i64 0, .int .i64 0] 56)) (.cells #[.int .i64 0, .int .i64 0, .int .i64 0] 56)
    simpa using this
  have gB : Below w.heap.size w ((w.alloc (.cells #[.int .i64 0, .int .i64 0, .int .i64 0] 56)).alloc (.cells #[.int .i64 0, .int .i64 0, .int .i64 0] 56)) := ((Below.refl _ _).alloc (Nat.le_refl _) _).alloc (by simp) _
  have gz : ((w.alloc (.cells #[.int .i64 0, .int .i64 0, .int .i64 0] 56)).alloc (.cells #[.int .i64 0, .int .i64 0, .int .i64 0] 56)).heap.size = w.heap.size + 2 := by simp
  gi_wp2
  have hseq := drying1_seq 2 bx bd be (w.heap.size + 1) s a b c dd v ha0 ha1 hb0 hb1 hv0 hv1 hd0 hd1 (by omega) (by omega) (by omega) _ (by omega) (hx.below hbx gB) ((gB.cell (p := ⟨bd, 0, none⟩) hbd).trans hd) ((gB.cell (p := ⟨be, 0, none⟩) hbe).trans he)
  refine rangeB (gf := 44) (lb := #[.pointer (some ⟨bx, 0, none⟩), .pointer (some ⟨bd, 0, none⟩), .pointer (some ⟨be, 0, none⟩)]) (encs := fun x => #[encD x]) (b := w.heap.size + 1) rfl (enters_of Tryd.func44 (by kernel_rfl) rfl) (by omega) (fun _ => rfl) hseq
    (fun pre W => (W.heap[w.heap.size]? = some (.cells #[.int .i64 0, .int .i64 0, .int .i64 0] 56 (0, 0)) ∧ W.heap[w.heap.size + 1]? = some (.cells (csD (pre.getLastD (0, 0, 0))) 56 (0, 0))) ∧ Below w.heap.size w W)
    (fun _ _ _ => False)
    (fun s A B h hAB => ⟨⟨low_heap h.1.1 (by omega) hAB, low_heap h.1.2 (by omega) hAB⟩, h.2.trans (hAB.mono (by omega))⟩)
    (fun _ _ _ _ h _ => h)
    ⟨⟨g2, g3⟩, gB⟩
    (fun x B => { tmps := #[.func (.func 44) #[] #[.pointer (some ⟨bx, 0, none⟩), .pointer (some ⟨bd, 0, none⟩), .pointer (some ⟨be, 0, none⟩)], undef, .pointer (some ⟨w.heap.size, 0, none⟩), .pointer (some ⟨w.heap.size + 1, 0, none⟩), .pointer (some ⟨B, 0, none⟩), .func (.func 44) #[] #[.pointer (some ⟨bx, 0, none⟩), .pointer (some ⟨bd, 0, none⟩), .pointer (some ⟨be, 0, none⟩)], encD x, undef, undef], defers := [] })
    csD 56 ?assign ?body ?done ?stop
  case assign =>
    rintro l ⟨d, m, g⟩ W K hK
    dsimp only [encD, csD] at hK ⊢
    gi_wp2
    exact hK
  case body =>
    rintro l B pre ⟨d, m, g⟩ W hpre hl hlB ⟨⟨i2, i3⟩, iB⟩ hBx hWz
    obtain ⟨⟨d', m', g'⟩, hlast⟩ : ∃ x, x = pre.getLastD (0, 0, 0) := ⟨_, rfl⟩
    rw [← hlast] at i3
    dsimp only [csD] at hBx i3
    dsimp only [encD]
    clear hlast
    have c0 := cellB hBx 0 _ rfl
    have c1 := cellB hBx 1 _ rfl
    have c2 := cellB hBx 2 _ rfl
    have f0 := cellB i3 0 _ rfl
    have f1 := cellB i3 1 _ rfl
    have f2 := cellB i3 2 _ rfl
    have r0 := freeB i3 0
    have r1 := freeB i3 1
    have r2 := freeB i3 2
    gi_wp2
    refine ⟨from3 _ _ _ _ _ _, but3 _ _ _ _ _, ⟨?_, ?_⟩, ?_⟩
    · rw [other3 (by omega)]; exact i2
    · rw [heap_set3 i3]; simp [csD]
    · exact below3 iB (by omega) _ _ _
  case done =>
    rintro K W hK ⟨⟨i2, i3⟩, iB⟩ hD
    obtain ⟨⟨d', m', g'⟩, hlast⟩ : ∃ x, x = (dryL a v b dd.toNat).getLastD (0, 0, 0) := ⟨_, rfl⟩
    rw [← hlast] at i3
    dsimp only [csD] at i3
    have hval : encD (dryE a v b dd.toNat) = .agg #[.int .i64 d', .int .i64 m', .int .i64 g'] := by
      have : dryE a v b dd.toNat = (d', m', g') := by rw [hlast]; exact (dryL_last a v b _).symm
      rw [this]; rfl
    have hval' := Lib.hid hval
    clear hlast hval
    have f0 := cellB i3 0 _ rfl
    have f1 := cellB i3 1 _ rfl
    have f2 := cellB i3 2 _ rfl
    have r0 := freeB i2 0
    have r1 := freeB i2 1
    have r2 := freeB i2 2
    have k0 := cellB i2 0 _ rfl
    have k1 := cellB i2 1 _ rfl
    have k2 := cellB i2 2 _ rfl
    have hK2 : w.heap.size + 2 ≤ K := by simpa using hK
    have hz : w.heap.size < W.heap.size := lt_of_some i2
    gi_wp2
    have hD' : (((W.setCell ⟨w.heap.size, 0, none⟩ (.int .i64 d')).setCell ⟨w.heap.size, 1, none⟩ (.int .i64 m')).setCell ⟨w.heap.size, 2, none⟩ (.int .i64 g')).heap[K]? = some (.deferred (some [])) := (other3 (by omega)).trans hD
    have hb3 := (World.putObj_heap_other (o := .deferred none) (show w.heap.size ≠ K by omega)).trans (heap_set3 (x' := .int .i64 d') (y' := .int .i64 m') (z' := .int .i64 g') i2)
    have q0 := cellB hb3 0 _ rfl
    have q1 := cellB hb3 1 _ rfl
    have q2 := cellB hb3 2 _ rfl
    have hlast : Below w.heap.size w ((((W.setCell ⟨w.heap.size, 0, none⟩ (.int .i64 d')).setCell ⟨w.heap.size, 1, none⟩ (.int .i64 m')).setCell ⟨w.heap.size, 2, none⟩ (.int .i64 g')).putObj K (.deferred none)) :=
      (below3 iB (Nat.le_refl _) _ _ _).trans (below_put _ _ (by omega) (by simp; omega))
    refine ⟨by simp, .inl ⟨_, _, rfl, run_takeDeferred hD', ?_⟩⟩
    refine ⟨.agg #[.int .i64 d', .int .i64 m', .int .i64 g'], ?_, by rw [hval'.out], hlast⟩
    simp [results, Tryd.f37, go_sem, q0, q1, q2]
  case stop =>
    rintro K c pre W _ _ h _
    exact h.elim
end Go.Proofs.YtjgpckocmjolmaaDoor
