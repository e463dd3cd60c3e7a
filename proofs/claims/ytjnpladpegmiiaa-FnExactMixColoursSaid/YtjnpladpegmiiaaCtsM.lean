/-
  Rows of coats: the law's marks.
-/
import Derived.Test.YtjnpladpegmiiaaCts2
namespace Go.Proofs.Ytjnpladpegmiiaa
open Go.ChangeShapes Go.WideShapes Go.ChangeAt Go.RowKit Go.Deep
set_option linter.unusedVariables false
set_option linter.unusedSimpArgs false
set_option maxRecDepth 1000000
theorem thereCells {w : World} {b n : Nat} (h : w.there b 0 n) (i : Nat) (hi : i < n) : (∃ old, w.cell? ⟨b, i, none⟩ = some old) ∧ w.frozen? ⟨b, i, none⟩ = false := by
  have := h i hi
  rw [Nat.zero_add] at this
  exact ⟨Option.isSome_iff_exists.1 this.1, this.2⟩
theorem OwnC.apartG {lo hi g N : Nat} {w : World} {Z : List Ct} {us : List Value} (h : OwnC lo hi w g N Z us) {i : Nat} {u : Value} (e : us[i]? = some u) : u.ownBlock = none ∨ u.ownBlock ≠ some g := by
  cases e3 : u.ownBlock with
  | none => exact Or.inl rfl
  | some b => right; intro hh; exact (h.rowIn i u e b e3).2 (by injection hh)
theorem OwnC.head {lo hi g N k : Nat} {w : World} {Z : List Ct} {us : List Value} (h : OwnC lo hi w g N Z us) (s : ByteArray) (a b : Int) {x : Ct} (hx : Z[k]? = some x) (o : Nat) (ho : o = k * 4) :
    OwnC lo hi (w.setCells g o [.string s, .int .i64 a, .int .i64 b]) g N (Z.set k ⟨s, a, b, x.col⟩) us := by
  subst ho
  have hk : k < Z.length := (List.getElem?_eq_some_iff.1 hx).1
  have hN := h.room
  have hgr : w.grownBy (w.setCells g (k * 4) [.string s, .int .i64 a, .int .i64 b]) (some g) := grownSets _ _ _ _
  refine ⟨by rw [size_sets]; exact h.hiW, h.gIn, by simp [h.len], by simpa using h.room, World.there_setCells h.th _ _ _, ?_, ?_, h.apart, ?_, h.rowIn⟩
  · intro i u y e1 e2
    by_cases hik : i = k
    · subst hik
      rw [List.getElem?_set_self hk] at e2
      cases e2
      have hold := h.cells i u x e1 hx
      intro j v hv
      match j, hv with
      | 0, hv => exact World.rangeAt_setCells_same w g (i * 4) [.string s, .int .i64 a, .int .i64 b] (there_part h.th _ 3 (by omega)) 0 v hv
      | 1, hv => exact World.rangeAt_setCells_same w g (i * 4) [.string s, .int .i64 a, .int .i64 b] (there_part h.th _ 3 (by omega)) 1 v hv
      | 2, hv => exact World.rangeAt_setCells_same w g (i * 4) [.string s, .int .i64 a, .int .i64 b] (there_part h.th _ 3 (by omega)) 2 v hv
      | 3, hv =>
        have h3 : w.rangeAt g (i * 4 + 3) [u] := fun q z hz => by
          match q, hz with
          | 0, hz => have := hold 3 u rfl; simpa [Nat.add_assoc] using (by simpa using hz : u = z) ▸ this
        have := World.rangeAt_setCells_apart h3 g (i * 4) [.string s, .int .i64 a, .int .i64 b] (Or.inr (Or.inr (by simp))) 0 u rfl
        have hv' : u = v := by simpa [Ct.cells] using hv
        rw [← hv']; simpa using this
    · rw [List.getElem?_set_ne (Ne.symm hik)] at e2
      exact World.rangeAt_setCells_apart (h.cells i u y e1 e2) _ _ _ (by simp [Ct.cells]; omega)
  · intro i u y e1 e2
    by_cases hik : i = k
    · subst hik
      rw [List.getElem?_set_self hk] at e2
      cases e2
      exact (h.row i u x e1 hx).kept hgr (h.apartG e1)
    · rw [List.getElem?_set_ne (Ne.symm hik)] at e2
      exact (h.row i u y e1 e2).kept hgr (h.apartG e1)
  · intro y hy
    rcases List.mem_or_eq_of_mem_set hy with h4 | rfl
    · exact h.inn y h4
    · exact h.inn x (List.mem_of_getElem? hx)
theorem OwnC.over {lo hi g N k : Nat} {w w2 : World} {Z : List Ct} {us : List Value} (h : OwnC lo hi w g N Z us) {x : Ct} {u : Value} (hx : Z[k]? = some x) (hu : us[k]? = some u) (L : List Int) (hg : w.grownBy w2 u.ownBlock)
    (ho : w2.ownsRow lo 2 1 u L.length (L.map encI)) (hz : ∀ n ∈ L, inI n) : OwnC lo hi w2 g N (Z.set k ⟨x.id, x.days, x.cover, L⟩) us := by
  have hk : k < Z.length := (List.getElem?_eq_some_iff.1 hx).1
  have hgl : g < w.heap.size := Nat.lt_of_lt_of_le h.gIn.2 h.hiW
  have hgu : some g ≠ u.ownBlock := by
    rcases h.apartG hu with e | e
    · rw [e]; simp
    · exact fun h => e h.symm
  have hcell : ∀ {o : Nat}, w2.cell? ⟨g, o, none⟩ = w.cell? ⟨g, o, none⟩ := fun {o} => World.cell?_of_block (w := w) (hg.block g hgl hgu)
  have hfro : ∀ {o : Nat}, w2.frozen? ⟨g, o, none⟩ = w.frozen? ⟨g, o, none⟩ := fun {o} => by unfold World.frozen?; rw [hg.block g hgl hgu]
  refine ⟨Nat.le_trans h.hiW hg.size, h.gIn, by simp [h.len], by simpa using h.room, fun j hj => ⟨by rw [hcell]; exact (h.th j hj).1, by rw [hfro]; exact (h.th j hj).2⟩, ?_, ?_, h.apart, ?_, h.rowIn⟩
  · intro i u' y e1 e2 j v hv
    rw [hcell]
    by_cases hik : i = k
    · subst hik
      rw [List.getElem?_set_self hk] at e2
      cases e2
      exact h.cells i u' x e1 hx j v hv
    · rw [List.getElem?_set_ne (Ne.symm hik)] at e2
      exact h.cells i u' y e1 e2 j v hv
  · intro i u' y e1 e2
    by_cases hik : i = k
    · subst hik
      rw [List.getElem?_set_self hk] at e2
      rw [hu] at e1
      cases e1; cases e2
      exact ho
    · rw [List.getElem?_set_ne (Ne.symm hik)] at e2
      exact (h.row i u' y e1 e2).kept hg (h.apart i k u' u hik e1 hu)
  · intro y hy
    rcases List.mem_or_eq_of_mem_set hy with h4 | rfl
    · exact h.inn y h4
    · exact hz
theorem Aside.below' {lo hi : Nat} {w w' : World} (h : Below w.heap.size w w') : Aside lo hi w w' := Aside.of_below h
theorem marksIn {k0 n : Nat} (h : k0 + n ≤ 1000000000000) : ∀ x ∈ ((List.range n).map fun i => ((k0 + i : Nat) : Int)), inI x := by
  intro x hx
  obtain ⟨i, hi, rfl⟩ := List.mem_map.1 hx
  have := List.mem_range.1 hi
  unfold inI
  omega
/-- the same sizes -/
def SameC (Z Y : List Ct) : Prop := Y.length = Z.length ∧ ∀ (i : Nat) (x y : Ct), Z[i]? = some x → Y[i]? = some y → y.col.length = x.col.length
theorem SameC.refl (Z : List Ct) : SameC Z Z := ⟨rfl, fun i x y h k => by rw [h] at k; cases k; rfl⟩
theorem SameC.set {Z Y : List Ct} (h : SameC Z Y) (k : Nat) {x y : Ct} (hx : Y[k]? = some x) (e : y.col.length = x.col.length) : SameC Z (Y.set k y) := by
  refine ⟨by simp [h.1], fun i z z' h1 h2 => ?_⟩
  by_cases hik : i = k
  · subst hik
    rw [List.getElem?_set_self ((List.getElem?_eq_some_iff.1 hx).1)] at h2
    cases h2
    rw [e]; exact h.2 i z x h1 hx
  · rw [List.getElem?_set_ne (Ne.symm hik)] at h2
    exact h.2 i z z' h1 h2
def MarkCRet (k0 : Nat) (Z : List Ct) (lo hi : Nat) (w : World) (e : Ending) (w' : World) : Prop := ∃ m : Nat, e = .returned (.int .i64 (m : Int)) ∧ (k0 ≤ m ∧ m ≤ k0 + 3 * Z.length + totC Z) ∧ Aside lo hi w w'
set_option maxHeartbeats 3200000 in
theorem markCoatS_any (g cap k0 lo hi : Nat) (Z : List Ct) (us : List Value) (w : World) (hn : Z.length + totC Z ≤ 1048576) (hk0 : 0 < k0) (hk1 : k0 ≤ 1000000000) (hO : OwnC lo hi w g Z.length Z us) : Calls Try.prog 24 #[.slice (some ⟨g, 0, none⟩) Z.length cap, .int .i64 k0] w (MarkCRet k0 Z lo hi w) := by
  have hO' := Lib.hid hO
  have hn' := Lib.hid hn
  have hnn : Z.length ≤ 1048576 := by omega
  obtain ⟨n, hnz⟩ : ∃ n, n = Z.length := ⟨_, rfl⟩
  have hnz' := Lib.hid hnz
  rw [← hnz] at hnn ⊢
  clear hO hn hnz
  go_enter Try.func24, Try.ntmps24
  go_wp2
  go_loopw [1, 5] (fun q i wr => ∃ (j m : Nat) (Y : List Ct), j ≤ n ∧ i = .int .i64 j ∧ q = .int .i64 m ∧ 0 < m ∧ m ≤ 2000000000 ∧ Hid (k0 ≤ m ∧ m ≤ k0 + 3 * j + totC (Z.take j)) ∧ Hid (OwnC lo hi wr g n Y us) ∧ Hid (SameC Z Y) ∧ Hid (Aside lo hi w wr)) (fun _ i _ => n - (intOf i).toNat)
  case atStart => exact ⟨0, k0, Z, by omega, rfl, rfl, hk0, by omega, Lib.hid ⟨by omega, by omega⟩, Lib.hid (by rw [hnz'.out]; exact hO'.out), Lib.hid (SameC.refl Z), Lib.hid (Aside.refl _ _ _)⟩
  case round =>
    obtain ⟨j, m, Y, hj, rfl, rfl, hm0, hm1, hm, hO2, hS, hA⟩ := hrel
    by_cases hlt : j < n
    · have hjI : (j : Int) < (n : Int) := by omega
      have hjZ : j < Z.length := by rw [← hnz'.out]; exact hlt
      have hYl : Y.length = n := by rw [hS.out.1, hnz'.out]
      obtain ⟨y, hy⟩ : ∃ y, Y[j]? = some y := ⟨_, List.getElem?_eq_getElem (by omega)⟩
      obtain ⟨u, hu⟩ : ∃ u, us[j]? = some u := ⟨_, List.getElem?_eq_getElem (by rw [hO2.out.len]; omega)⟩
      have hyl : y.col.length = Z[j].col.length := hS.out.2 j _ y (List.getElem?_eq_getElem hjZ) hy
      have htk := totC_take hjZ
      have htc : Z[j].col.length ≤ totC Z := totC_ge (List.getElem_mem hjZ)
      have hmx := hm.out
      have htt : totC (Z.take (j + 1)) ≤ 1048576 := by
        have e : totC Z = totC (Z.take (j + 1) ++ Z.drop (j + 1)) := by rw [List.take_append_drop]
        rw [totC_append] at e
        have := hn'.out
        omega
      have hm2 : m ≤ 1100000000 := by omega
      have hmI : (m : Int) ≤ 1100000000 := by omega
      obtain ⟨l, hl⟩ : ∃ l, l = y.col.length := ⟨_, rfl⟩
      have hl5 : l ≤ 1048576 := by have := hn'.out; omega
      have hmn : Hid (k0 ≤ m + 3 + l ∧ m + 3 + l ≤ k0 + 3 * (j + 1) + totC (Z.take (j + 1))) := Lib.hid (by rw [htk, hl, hyl]; omega)
      have hjn : Hid (j * 4 + 4 ≤ n * 4) := Lib.hid (by omega)
      obtain ⟨ua, uc, rfl⟩ := ownShape (hO2.out.row j u y hu hy)
      rw [← hl] at hu
      have key : Hid (∀ w2, Below wr.heap.size wr w2 → ∀ (s : ByteArray) (p q : Int) (w5 : World), w2.setCells g (j * 4) [.string s, .int .i64 p, .int .i64 q] = w5 →
          OwnC lo hi w5 g n (Y.set j ⟨s, p, q, y.col⟩) us ∧ Aside lo hi w w5) := Lib.hid (fun w2 h2 s p q w5 h5 => by
        subst h5
        have h1 := hO2.out.kept h2
        exact ⟨h1.head s p q hy _ rfl, (hA.out.trans (Aside.of_below h2)).trans (Aside.grown (grownSets g _ _ _) (fun k hk => by cases hk; exact h1.gIn))⟩)
      have key2 : Hid (∀ (w5 : World) (s : ByteArray) (p q : Int), OwnC lo hi w5 g n (Y.set j ⟨s, p, q, y.col⟩) us → Aside lo hi w w5 → 
          Calls Try.prog 25 #[.slice ua l uc, .int .i64 ((m : Int) + 1 + 1 + 1)] w5 fun e w' => e = .returned (.int .i64 ((m + 3 + l : Nat) : Int)) ∧ Hid (OwnC lo hi w' g n ((Y.set j ⟨s, p, q, y.col⟩).set j ⟨s, p, q, (List.range l).map fun i => ((m + 3 + i : Nat) : Int)⟩) us) ∧ Hid (Aside lo hi w w')) := Lib.hid (fun w5 s p q h5 hA5 => by
        have hget : (Y.set j ⟨s, p, q, y.col⟩)[j]? = some ⟨s, p, q, y.col⟩ := List.getElem?_set_self (by omega)
        have hrow := h5.row j _ _ hu hget
        have e1 : ((m : Int) + 1 + 1 + 1) = ((m + 3 : Nat) : Int) := by omega
        rw [e1]
        simp only at hrow
        have hc := markInt64S_row (.slice ua l uc) (m + 3) lo y.col w5 (by omega) (by omega) (by omega) (by exact hrow)
        rw [← hl] at hc
        refine hc.mono ?_
        rintro e w' ⟨rfl, o, gr⟩
        refine ⟨rfl, Lib.hid ?_, Lib.hid (hA5.trans (Aside.grown gr (fun k hk => ⟨(hrow.lt k hk).1, (h5.rowIn j _ hu k hk).1⟩)))⟩
        refine OwnC.over h5 hget hu _ gr ?_ (marksIn (by omega))
        simpa using o)
      have key3 : Hid (∀ (w5 : World) (s : ByteArray) (p q : Int), OwnC lo hi w5 g n (Y.set j ⟨s, p, q, y.col⟩) us → w5.cell? ⟨g, j * 4 + 3, none⟩ = some (.slice ua l uc)) := Lib.hid (fun w5 s p q h5 => by
        have hget : (Y.set j ⟨s, p, q, y.col⟩)[j]? = some ⟨s, p, q, y.col⟩ := List.getElem?_set_self (by omega)
        exact h5.cells j _ _ hu hget 3 _ rfl)
      have hS2 : Hid (∀ s p q, SameC Z ((Y.set j ⟨s, p, q, y.col⟩).set j ⟨s, p, q, (List.range l).map fun i => ((m + 3 + i : Nat) : Int)⟩)) := Lib.hid (fun s p q => by
        refine SameC.set (x := ⟨s, p, q, y.col⟩) (SameC.set (y := ⟨s, p, q, y.col⟩) hS.out j hy rfl) j (List.getElem?_set_self (by omega)) ?_
        simp [hl])
      have hth := Lib.hid hO2.out.th
      have hgl : g < wr.heap.size := Nat.lt_of_lt_of_le hO2.out.gIn.2 hO2.out.hiW
      clear hmx htt htk htc hyl hy hu hYl hl
      go_upto_region 10 with (go_at_call 58; refine (markText_v m (by omega) hm0 _).mono ?_; rintro e w2 ⟨rfl, hb2⟩; have hth3 := Lib.hid (there_below hth.out hgl hb2); obtain ⟨⟨y0, c0⟩, f0⟩ := thereCells hth3.out (j * 4) (by have := hjn.out; omega); obtain ⟨⟨y1, c1⟩, f1⟩ := thereCells hth3.out (j * 4 + 1) (by have := hjn.out; omega); obtain ⟨⟨y2, c2⟩, f2⟩ := thereCells hth3.out (j * 4 + 2) (by have := hjn.out; omega); have key4 := Lib.hid (key.out w2 hb2); clear hb2)
      obtain ⟨w5, hw5⟩ : ∃ w5, w5 = w2.setCells g (j * 4) [.string (markB m), .int .i64 ((m : Int) + 1), .int .i64 ((m : Int) + 1 + 1)] := ⟨_, rfl⟩
      obtain ⟨o5, a5⟩ := key4.out _ _ _ w5 hw5.symm
      have c3 := key3.out w5 _ _ _ o5
      have cM := Lib.hid (key2.out w5 _ _ _ o5 a5)
      simp only [World.setCells] at hw5
      rw [← hw5]
      clear o5 a5 hw5 key key2 key3 key4 c0 c1 c2 f0 f1 f2 hth3
      go_wp2_with (go_at_call 25; (with_reducible refine cM.out.mono ?_); rintro e w6 ⟨rfl, o6, a6⟩)
      go_roundw
      case rel => exact ⟨j + 1, m + 3 + l, _, by omega, by go_num, rfl, by omega, by omega, hmn, o6, Lib.hid (hS2.out _ _ _), a6⟩
      case measure => simp [intOf]; omega
    · obtain rfl : j = n := by omega
      have hm3 : Hid (k0 ≤ m ∧ m ≤ k0 + 3 * Z.length + totC Z) := Lib.hid (by have := hm.out; rw [hnz'.out, List.take_length] at this; exact this)
      go_wp2
      go_ret
      exact ⟨m, rfl, hm3.out, hA.out⟩
end Go.Proofs.Ytjnpladpegmiiaa
