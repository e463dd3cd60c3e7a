/-
  The program's drying: the first day as wanted.
-/
import Derived.Test.YtemccejlophmkaaDoorDry5
namespace Go.Proofs.YtemccejlophmkaaDoor
open Go.ChangeShapes Go.WideShapes Go.ChangeAt Go.RowKit Go.Deep
set_option linter.unusedVariables false
set_option linter.unusedSimpArgs false
attribute [local go_sem] Oper.semAt_some
def wetP (a v b z : Int) (k : Nat) : Bool := decide (dryV a v b k ≤ z)
/-- what the first day as wanted tells -/
def fstE (a v b z : Int) (n : Nat) : Value := match fstK (wetP a v b z) (n + 1) with
  | some k => encD (dryE a v b k)
  | none => encD (0, 0, 0)
def fstB (a v b z : Int) (n : Nat) : Bool := (fstK (wetP a v b z) (n + 1)).isSome
theorem fst_yes {a v b z : Int} {n k : Nat} (hk : k ≤ n) (hp : dryV a v b k ≤ z) (hno : ∀ j, j < k → wetP a v b z j = false) : fstE a v b z n = encD (dryE a v b k) ∧ fstB a v b z n = true := by
  have := fstK_some (p := wetP a v b z) (n := n + 1) (k := k) (by omega) (by simp [wetP, hp]) hno
  unfold fstE fstB; rw [this]; exact ⟨rfl, rfl⟩
theorem fst_no {a v b z : Int} {n : Nat} (hno : ∀ j, j < n + 1 → wetP a v b z j = false) : fstE a v b z n = encD (0, 0, 0) ∧ fstB a v b z n = false := by
  have := fstK_none (p := wetP a v b z) (n := n + 1) hno
  unfold fstE fstB; rw [this]; exact ⟨rfl, rfl⟩
set_option maxRecDepth 100000 in
set_option maxHeartbeats 3200000 in
theorem first_any (bx bd be bg : Nat) (s : ByteArray) (a : Int) (b : Int) (c : Int) (dd v z : Int) (ha0 : 0 ≤ a) (ha1 : a ≤ 1000) (hb0 : 10 ≤ b) (hb1 : b ≤ 1000) (hv0 : 0 ≤ v) (hv1 : v ≤ 1000) (hd0 : 0 ≤ dd) (hd1 : dd ≤ 4000) (w : World) (hx : StkAt w bx 0 ⟨s, a, b, c⟩) (hd : w.cell? ⟨bd, 0, none⟩ = some (.int .i64 dd)) (he : w.cell? ⟨be, 0, none⟩ = some (.int .i64 v)) (hg : w.cell? ⟨bg, 0, none⟩ = some (.int .i64 z)) : Calls Tryd.prog 27 #[.func (.func 45) #[] #[.pointer (some ⟨bx, 0, none⟩), .pointer (some ⟨bd, 0, none⟩), .pointer (some ⟨be, 0, none⟩)], .func (.func 28) #[] #[.pointer (some ⟨bg, 0, none⟩)]] w fun e w' => e = .returned (.tuple #[fstE a v b z dd.toNat, .bool (fstB a v b z dd.toNat)]) ∧ Below w.heap.size w w' := by
  have hbx : bx < w.heap.size := World.block_lt_of_cell? w _ hx.1
  have hbd : bd < w.heap.size := World.block_lt_of_cell? w _ hd
  have hbe : be < w.heap.size := World.block_lt_of_cell? w _ he
  have hbg : bg < w.heap.size := World.block_lt_of_cell? w _ hg
  refine (callsIn_wide (n := 3)).1 ?_
  refine callsIn_of_wp_marks Tryd.func27 rfl trivial ?_ rfl
  simp only [Tryd.ntmps27, List.size_toArray, List.length_cons, List.length_nil, Nat.reduceAdd, Nat.reduceSub, Array.replicate_succ, Array.replicate_zero, List.push_toArray, List.append_toArray, List.nil_append, List.cons_append]
  have gB : Below w.heap.size w (((w.alloc (.cells #[.func (.func 28) #[] #[.pointer (some ⟨bg, 0, none⟩)]] 54)).alloc (.cells #[.int .i64 0, .int .i64 0, .int .i64 0] 48)).alloc (.cells #[.bool false] 4)) := (((Below.refl _ _).alloc (Nat.le_refl _) _).alloc (by simp) _).alloc (by simp; omega) _
  have gz : (((w.alloc (.cells #[.func (.func 28) #[] #[.pointer (some ⟨bg, 0, none⟩)]] 54)).alloc (.cells #[.int .i64 0, .int .i64 0, .int .i64 0] 48)).alloc (.cells #[.bool false] 4)).heap.size = w.heap.size + 3 := by simp
  have g2 : (((w.alloc (.cells #[.func (.func 28) #[] #[.pointer (some ⟨bg, 0, none⟩)]] 54)).alloc (.cells #[.int .i64 0, .int .i64 0, .int .i64 0] 48)).alloc (.cells #[.bool false] 4)).heap[w.heap.size]? = some (.cells #[.func (.func 28) #[] #[.pointer (some ⟨bg, 0, none⟩)]] 54 (0, 0)) := (Below.heap_alloc _ _ _ (by simp; omega)).trans ((Below.heap_alloc _ _ _ (by simp)).trans (heap_alloc_new _ _))
  have g3 : (((w.alloc (.cells #[.func (.func 28) #[] #[.pointer (some ⟨bg, 0, none⟩)]] 54)).alloc (.cells #[.int .i64 0, .int .i64 0, .int .i64 0] 48)).alloc (.cells #[.bool false] 4)).heap[w.heap.size + 1]? = some (.cells #[.int .i64 0, .int .i64 0, .int .i64 0] 48 (0, 0)) := (Below.heap_alloc _ _ _ (by simp)).trans (by rw [show w.heap.size + 1 = (w.alloc (.cells #[.func (.func 28) #[] #[.pointer (some ⟨bg, 0, none⟩)]] 54)).heap.size by simp]; exact heap_alloc_new _ _)
  have g4 : (((w.alloc (.cells #[.func (.func 28) #[] #[.pointer (some ⟨bg, 0, none⟩)]] 54)).alloc (.cells #[.int .i64 0, .int .i64 0, .int .i64 0] 48)).alloc (.cells #[.bool false] 4)).heap[w.heap.size + 2]? = some (.cells #[.bool false] 4 (0, 0)) := by rw [show w.heap.size + 2 = ((w.alloc (.cells #[.func (.func 28) #[] #[.pointer (some ⟨bg, 0, none⟩)]] 54)).alloc (.cells #[.int .i64 0, .int .i64 0, .int .i64 0] 48)).heap.size by simp]; exact heap_alloc_new _ _
  gi_wp2
  have hseq := drying1_seq 2 bx bd be w.heap.size s a b c dd v ha0 ha1 hb0 hb1 hv0 hv1 hd0 hd1 (by omega) (by omega) (by omega) _ (by omega) (hx.below hbx gB) ((gB.cell (p := ⟨bd, 0, none⟩) hbd).trans hd) ((gB.cell (p := ⟨be, 0, none⟩) hbe).trans he)
  refine rangeB (gf := 45) (lb := #[.pointer (some ⟨bx, 0, none⟩), .pointer (some ⟨bd, 0, none⟩), .pointer (some ⟨be, 0, none⟩)]) (encs := fun x => #[encD x]) (b := w.heap.size) rfl (enters_of Tryd.func45 (by kernel_rfl) rfl) (by omega) (fun _ => rfl) hseq
    (fun pre W => ((∀ j, j < pre.length → wetP a v b z j = false) ∧ W.heap[w.heap.size]? = some (.cells #[.func (.func 28) #[] #[.pointer (some ⟨bg, 0, none⟩)]] 54 (0, 0)) ∧ W.heap[w.heap.size + 1]? = some (.cells #[.int .i64 0, .int .i64 0, .int .i64 0] 48 (0, 0)) ∧ W.heap[w.heap.size + 2]? = some (.cells #[.bool false] 4 (0, 0))) ∧ Below w.heap.size w W)
    (fun c pre W => (c = .ret ∧ ∃ k, k ≤ dd.toNat ∧ (fstE a v b z dd.toNat = encD (dryE a v b k) ∧ fstB a v b z dd.toNat = true) ∧ W.heap[w.heap.size + 1]? = some (.cells (csD (dryE a v b k)) 48 (0, 0)) ∧ W.heap[w.heap.size + 2]? = some (.cells #[.bool true] 4 (0, 0))) ∧ Below w.heap.size w W)
    (fun s A B h hAB => ⟨⟨h.1.1, low_heap h.1.2.1 (by omega) hAB, low_heap h.1.2.2.1 (by omega) hAB, low_heap h.1.2.2.2 (by omega) hAB⟩, h.2.trans (hAB.mono (by omega))⟩)
    (fun c s A B h hAB => by
      obtain ⟨⟨hc, k, hk, hf, h1, h2⟩, hB⟩ := h
      exact ⟨⟨hc, k, hk, hf, low_heap h1 (by omega) hAB, low_heap h2 (by omega) hAB⟩, hB.trans (hAB.mono (by omega))⟩)
    ⟨⟨fun j hj => absurd hj (Nat.not_lt_zero _), g2, g3, g4⟩, gB⟩
    (fun x B => { tmps := #[.func (.func 45) #[] #[.pointer (some ⟨bx, 0, none⟩), .pointer (some ⟨bd, 0, none⟩), .pointer (some ⟨be, 0, none⟩)], .func (.func 28) #[] #[.pointer (some ⟨bg, 0, none⟩)], undef, .pointer (some ⟨w.heap.size, 0, none⟩), .pointer (some ⟨w.heap.size + 1, 0, none⟩), .pointer (some ⟨w.heap.size + 2, 0, none⟩), .pointer (some ⟨B, 0, none⟩), undef, .func (.func 45) #[] #[.pointer (some ⟨bx, 0, none⟩), .pointer (some ⟨bd, 0, none⟩), .pointer (some ⟨be, 0, none⟩)], encD x, undef, undef, undef, undef, undef], defers := [] })
    csD 48 ?assign ?body ?done ?stop
  case assign =>
    rintro l ⟨d, m, g⟩ W K hK
    dsimp only [encD, csD] at hK ⊢
    gi_wp2
    exact hK
  case body =>
    rintro l B pre ⟨d, m, g⟩ W hpre hl hlB ⟨⟨hno, i2, i3, i4⟩, iB⟩ hBx hWz
    obtain ⟨hxe, hpl⟩ := pre_get hpre
    have hgW : W.cell? ⟨bg, 0, none⟩ = some (.int .i64 z) := (iB.cell (p := ⟨bg, 0, none⟩) hbg).trans hg
    have hm : m = dryV a v b pre.length := by rw [← dryE_mo, ← hxe]
    have hlen : (pre ++ [(d, m, g)]).length = pre.length + 1 := by simp
    have hno2 : Hid (¬ m ≤ z → ∀ j, j < pre.length + 1 → wetP a v b z j = false) := Lib.hid (fun h j hj => by
      by_cases e : j = pre.length
      · subst e; simp only [wetP, decide_eq_false_iff_not]; rw [← hm]; exact h
      · exact hno j (by omega))
    have hyes : Hid (m ≤ z → (fstE a v b z dd.toNat = encD (dryE a v b pre.length) ∧ fstB a v b z dd.toNat = true)) := Lib.hid (fun h => fst_yes hpl (by rw [← hm]; exact h) hno)
    have hxe' := Lib.hid hxe
    have hpl' := Lib.hid hpl
    have hlen' := Lib.hid hlen
    clear hxe hpre hm hno hpl hlen
    have cC0 := dryP_any d m g z bg W hgW
    dsimp only [csD] at hBx
    dsimp only [encD]
    have c0 := cellB hBx 0 _ rfl
    have c1 := cellB hBx 1 _ rfl
    have c2 := cellB hBx 2 _ rfl
    have f0 := cellB i2 0 _ rfl
    have hBlt : B < W.heap.size := lt_of_some hBx
    cases hp : decide (m ≤ z)
    all_goals
      rw [hp] at cC0
      have cC := Lib.hid cC0
      clear cC0 hgW
      gi_wp2_with fail
      refine ⟨trivial, (CallsIn.inRound l (callsIn_wide.2 cC.out)).mono ?_⟩
      rintro e W2 ⟨rfl, b2⟩
      have j2 : W2.heap[w.heap.size]? = some (.cells #[.func (.func 28) #[] #[.pointer (some ⟨bg, 0, none⟩)]] 54 (0, 0)) := (b2.block _ (lt_of_some i2)).trans i2
      have j3 : W2.heap[w.heap.size + 1]? = some (.cells #[.int .i64 0, .int .i64 0, .int .i64 0] 48 (0, 0)) := (b2.block _ (lt_of_some i3)).trans i3
      have j4 : W2.heap[w.heap.size + 2]? = some (.cells #[.bool false] 4 (0, 0)) := (b2.block _ (lt_of_some i4)).trans i4
      have jx : W2.heap[B]? = some (.cells #[.int .i64 d, .int .i64 m, .int .i64 g] 48 (0, 0)) := (b2.block _ hBlt).trans hBx
      clear c0 c1 c2 f0
      have c0 := cellB jx 0 _ rfl
      have c1 := cellB jx 1 _ rfl
      have c2 := cellB jx 2 _ rfl
      have k0 := cellB j3 0 _ rfl
      have k1 := cellB j3 1 _ rfl
      have k2 := cellB j3 2 _ rfl
      have r0 := freeB j3 0
      have r1 := freeB j3 1
      have r2 := freeB j3 2
      have k4 := cellB j4 0 _ rfl
      have r4 := freeB j4 0
      gi_wp2
    · have hz : ¬ m ≤ z := by simpa using hp
      exact ⟨KeepsFrom.below b2, CellsBut.of_below b2, ⟨by rw [hlen'.out]; exact hno2.out (by omega), j2, j3, j4⟩, below2 iB b2⟩
    · have hz : m ≤ z := by simpa using hp
      refine ⟨((KeepsFrom.below b2).trans (from3 _ _ _ _ _ _)).trans ((KeepsOthers.setCell _ _ _).from _), ⟨rfl, pre.length, hpl'.out, hyes.out hz, ?_, ?_⟩, ?_⟩
      · rw [Below.heap_setCell _ _ _ _ (by simp), ← hxe'.out]; exact heap_set3 j3
      · exact heap_set ((other3 (by omega)).trans j4) 0 _ _ rfl
      · exact (below3 (below2 iB b2) (by omega) _ _ _).setCell (p := ⟨w.heap.size + 2, 0, none⟩) (by simp) _
  case done =>
    rintro K W hK ⟨⟨hno, i2, i3, i4⟩, iB⟩ hD
    have hK2 : w.heap.size + 3 ≤ K := by simpa using hK
    have hKW : K < W.heap.size := lt_of_some hD
    rw [dryL_len] at hno
    obtain ⟨q1, q2⟩ := fst_no hno
    have hq := Lib.hid (And.intro q1 q2)
    have k0 := cellB i3 0 _ rfl
    have k1 := cellB i3 1 _ rfl
    have k2 := cellB i3 2 _ rfl
    have r0 := freeB i3 0
    have r1 := freeB i3 1
    have r2 := freeB i3 2
    have k4 := cellB i4 0 _ rfl
    have r4 := freeB i4 0
    have hz1 : w.heap.size + 1 < W.heap.size := by omega
    have hz2 : w.heap.size + 2 < W.heap.size := by omega
    clear hno q1 q2
    gi_wp2
    have d1 : ((((W.setCell ⟨w.heap.size + 1, 0, none⟩ (.int .i64 0)).setCell ⟨w.heap.size + 1, 1, none⟩ (.int .i64 0)).setCell ⟨w.heap.size + 1, 2, none⟩ (.int .i64 0)).setCell ⟨w.heap.size + 1 + 1, 0, none⟩ (.bool false)).heap[w.heap.size + 1]? = some (.cells #[.int .i64 0, .int .i64 0, .int .i64 0] 48 (0, 0)) := (Below.heap_setCell _ _ _ _ (by simp)).trans (heap_set3 i3)
    have d2 : ((((W.setCell ⟨w.heap.size + 1, 0, none⟩ (.int .i64 0)).setCell ⟨w.heap.size + 1, 1, none⟩ (.int .i64 0)).setCell ⟨w.heap.size + 1, 2, none⟩ (.int .i64 0)).setCell ⟨w.heap.size + 1 + 1, 0, none⟩ (.bool false)).heap[w.heap.size + 1 + 1]? = some (.cells #[.bool false] 4 (0, 0)) := heap_set ((other3 (by omega)).trans i4) 0 _ _ rfl
    have d3 : ((((W.setCell ⟨w.heap.size + 1, 0, none⟩ (.int .i64 0)).setCell ⟨w.heap.size + 1, 1, none⟩ (.int .i64 0)).setCell ⟨w.heap.size + 1, 2, none⟩ (.int .i64 0)).setCell ⟨w.heap.size + 1 + 1, 0, none⟩ (.bool false)).heap[K]? = some (.deferred (some [])) := (Below.heap_setCell _ _ _ _ (by simp; omega)).trans ((other3 (by omega)).trans hD)
    have d4 : Below w.heap.size w ((((W.setCell ⟨w.heap.size + 1, 0, none⟩ (.int .i64 0)).setCell ⟨w.heap.size + 1, 1, none⟩ (.int .i64 0)).setCell ⟨w.heap.size + 1, 2, none⟩ (.int .i64 0)).setCell ⟨w.heap.size + 1 + 1, 0, none⟩ (.bool false)) := (below3 iB (by omega) _ _ _).setCell (p := ⟨w.heap.size + 1 + 1, 0, none⟩) (by simp; omega) _
    have dz : K < ((((W.setCell ⟨w.heap.size + 1, 0, none⟩ (.int .i64 0)).setCell ⟨w.heap.size + 1, 1, none⟩ (.int .i64 0)).setCell ⟨w.heap.size + 1, 2, none⟩ (.int .i64 0)).setCell ⟨w.heap.size + 1 + 1, 0, none⟩ (.bool false)).heap.size := by simp; omega
    generalize ((((W.setCell ⟨w.heap.size + 1, 0, none⟩ (.int .i64 0)).setCell ⟨w.heap.size + 1, 1, none⟩ (.int .i64 0)).setCell ⟨w.heap.size + 1, 2, none⟩ (.int .i64 0)).setCell ⟨w.heap.size + 1 + 1, 0, none⟩ (.bool false)) = V at d1 d2 d3 d4 dz ⊢
    have e1 := (Below.heap_alloc V (.cells #[.int .i64 0, .int .i64 0, .int .i64 0] 48) _ (lt_of_some d1)).trans d1
    have e2 := (Below.heap_alloc V (.cells #[.int .i64 0, .int .i64 0, .int .i64 0] 48) _ (lt_of_some d2)).trans d2
    have e3 := (Below.heap_alloc V (.cells #[.int .i64 0, .int .i64 0, .int .i64 0] 48) _ dz).trans d3
    have h3 := (World.putObj_heap_other (o := .deferred none) (show w.heap.size + 1 ≠ K by omega)).trans e1
    have h4 := (World.putObj_heap_other (o := .deferred none) (show w.heap.size + 1 + 1 ≠ K by omega)).trans e2
    have q0 := cellB h3 0 _ rfl
    have q1 := cellB h3 1 _ rfl
    have q2 := cellB h3 2 _ rfl
    have q4 := cellB h4 0 _ rfl
    refine ⟨by simp, .inl ⟨_, _, rfl, run_takeDeferred e3, ?_⟩⟩
    refine ⟨.tuple #[.agg #[.int .i64 0, .int .i64 0, .int .i64 0], .bool false], ?_, ?_, (d4.alloc (by omega) _).trans (below_put _ _ (by omega) (by simp; omega))⟩
    · simp [results, Tryd.f27, go_sem, q0, q1, q2, q4]
    · rw [hq.out.1, hq.out.2]; rfl
  case stop =>
    rintro K c pre W hK hpre ⟨⟨rfl, k, hk, hf, i3, i4⟩, iB⟩ hD
    have hf' := Lib.hid hf
    have hK2 : w.heap.size + 3 ≤ K := by simpa using hK
    clear hf
    obtain ⟨⟨d, m, g⟩, hxe⟩ : ∃ x, x = dryE a v b k := ⟨_, rfl⟩
    have hxe' := Lib.hid hxe
    rw [← hxe] at i3
    dsimp only [csD] at i3
    clear hxe
    gi_wp2
    have h3 := (World.putObj_heap_other (o := .deferred none) (show w.heap.size + 1 ≠ K by omega)).trans i3
    have h4 := (World.putObj_heap_other (o := .deferred none) (show w.heap.size + 2 ≠ K by omega)).trans i4
    have q0 := cellB h3 0 _ rfl
    have q1 := cellB h3 1 _ rfl
    have q2 := cellB h3 2 _ rfl
    have q4 := cellB h4 0 _ rfl
    refine ⟨by simp, .inl ⟨_, _, rfl, run_takeDeferred hD, ?_⟩⟩
    refine ⟨.tuple #[.agg #[.int .i64 d, .int .i64 m, .int .i64 g], .bool true], ?_, ?_, iB.trans (below_put _ _ (by omega) (by have := lt_of_some i3; omega))⟩
    · simp [results, Tryd.f27, go_sem, q0, q1, q2, q4]
    · rw [hf'.out.1, hf'.out.2, ← hxe'.out]; rfl
end Go.Proofs.YtemccejlophmkaaDoor
