/-
  Rows of coats: what a walk is told of one, the law's sizes, copies, comparisons and marks.
-/
import Derived.Test.YtjnpladpegmiiaaCt
import Derived.Test.YtjnpladpegmiiaaMark
import Derived.Deep.RegionHeld3
import Derived.OwnWalk
namespace Go.Proofs.Ytjnpladpegmiiaa
open Go.ChangeShapes Go.WideShapes Go.ChangeAt Go.RowKit Go.Deep
set_option linter.unusedVariables false
set_option linter.unusedSimpArgs false
set_option maxRecDepth 1000000
/-- v reads as the structs Z -/
def CtsAt (w : World) (v : Value) (Z : List Ct) : Prop :=
  ∃ a cap, v = .slice a Z.length cap ∧ Z.length ≤ cap ∧ (∀ x ∈ Z, x.id.size ≤ maxLen ∧ x.col.length ≤ maxLen) ∧ (Z = [] ∨ ∃ g o, a = some ⟨g, o, none⟩ ∧ g < w.heap.size ∧ ∀ i (hi : i < Z.length), ∃ u, w.rangeAt g (o + i * 4) (Z[i].cells u) ∧ IntsAt w u Z[i].col)
theorem CtsAt.below {w w' : World} {v : Value} {Z : List Ct} (h : CtsAt w v Z) (hb : Below w.heap.size w w') : CtsAt w' v Z := by
  obtain ⟨a, cap, h1, h2, h3, h4⟩ := h
  refine ⟨a, cap, h1, h2, h3, ?_⟩
  rcases h4 with h4 | ⟨g, o, e, hg, hc⟩
  · exact Or.inl h4
  · refine Or.inr ⟨g, o, e, Nat.lt_of_lt_of_le hg hb.size, fun i hi => ?_⟩
    obtain ⟨u, hu, hi2⟩ := hc i hi
    exact ⟨u, range_below hu hg hb, hi2.below hb⟩
/-- what the walk is told of an argument -/
def CtsV (w : World) (v : Value) : Prop := ∃ Z, CtsAt w v Z ∧ Z.length ≤ maxLen
theorem cts_open {H : Type} {enc : TypeId × Value → H} {w : World} {base : Nat} {spare : Nat → Bool} {held : Bool} {r : Reach} {b0 : Nat} {v : Value} {d : DataW H} {p : List MemPlace} (hv : Value.okWide Try.prog w r b0 22 v) (h : DataW.Trod enc Try.prog w base spare held 22 v d p) : CtsV w v := by
  obtain ⟨a, len, cap, rfl⟩ := okWide_slice Try.underlying22 hv
  obtain ⟨fuel, hf⟩ := h
  rcases open_slice Try.underlying22 hf with ⟨hcs, _⟩ | ⟨x, l, c, m, n, D, Pl, hcs, _, hl, hm, hmm, _, hi⟩
  · simp [Value.cells] at hcs
    obtain ⟨rfl, rfl, rfl⟩ := hcs
    exact ⟨[], ⟨none, 0, rfl, Nat.le_refl 0, fun x hx => (by cases hx), Or.inl rfl⟩, Nat.zero_le _⟩
  · simp [Value.cells] at hcs
    obtain ⟨rfl, rfl, rfl⟩ := hcs
    have hC : Try.prog.cellsOf 42 = 4 := by kernel_rfl
    rw [hC] at hi
    have hlm : len ≤ m := by rw [hmm]; split <;> omega
    have key : ∀ i, ∃ x1 : Ct, i < len → (∃ u, (∀ j v, (x1.cells u)[j]? = some v → w.cell? ((x.add (i * 4)).add j) = some v) ∧ IntsAt w u x1.col) ∧ (x1.id.size ≤ maxLen ∧ x1.col.length ≤ maxLen) := by
      intro i
      by_cases hlt : i < len
      · obtain ⟨cs', hc, ht⟩ := hi i (by omega)
        obtain ⟨_, hlen, hat⟩ := World.cells?_some hc
        obtain ⟨s1, a1, b1, u1, L1, e, hs1, hL1, hi1⟩ := ct_cells ht hlen
        refine ⟨⟨s1, a1, b1, L1⟩, fun _ => ⟨⟨u1, fun j v hv => ?_, hi1⟩, hs1, hL1⟩⟩
        have hj : j < 4 := by have := (List.getElem?_eq_some_iff.1 hv).1; simpa [Ct.cells] using this
        rw [hat j hj, e]; exact hv
      · exact ⟨⟨ByteArray.empty, 0, 0, []⟩, fun h => absurd h hlt⟩
    obtain ⟨f, hfx⟩ := Classical.axiomOfChoice key
    have hZl : ((List.range len).map f).length = len := by simp
    refine ⟨(List.range len).map f, ⟨some x, cap, by rw [hZl], by rw [hZl]; exact hl, ?_, ?_⟩, by rw [hZl]; exact Nat.le_trans hl hm⟩
    · intro y hy
      obtain ⟨i, hi1, rfl⟩ := List.mem_map.1 hy
      exact (hfx i (List.mem_range.1 hi1)).2
    · by_cases h0 : len = 0
      · left; subst h0; rfl
      · right
        obtain ⟨b, off, spot⟩ := x
        obtain ⟨u0, hc0, _⟩ := (hfx 0 (by omega)).1
        have hc := hc0 0 _ rfl
        have hspot : spot = none := by simpa [Addr.add] using World.cell?_spot hc
        subst hspot
        refine ⟨b, off, rfl, World.block_lt_of_cell? w _ (by have := hc; simpa [Addr.add] using this), fun i hi => ?_⟩
        have hil : i < len := by rw [hZl] at hi; exact hi
        obtain ⟨u, hu, hui⟩ := (hfx i hil).1
        refine ⟨u, fun j v hv => ?_, by simpa using hui⟩
        have := hu j v (by simpa using hv)
        rwa [add_plain, add_plain] at this
/-- how many numbers all colours have -/
def totC (Z : List Ct) : Nat := (Z.map (fun x => x.col.length)).sum
theorem totC_append (G H : List Ct) : totC (G ++ H) = totC G + totC H := by simp [totC]
theorem totC_take {G : List Ct} {k : Nat} (h : k < G.length) : totC (G.take (k + 1)) = totC (G.take k) + G[k].col.length := by
  rw [List.take_succ_eq_append_getElem h, totC_append]; simp [totC]
theorem totC_ge {G : List Ct} {x : Ct} (h : x ∈ G) : x.col.length ≤ totC G := by
  induction G with
  | nil => cases h
  | cons Y G ih =>
    have e : totC (Y :: G) = Y.col.length + totC G := rfl
    rw [e]
    rcases List.mem_cons.1 h with rfl | h
    · omega
    · have := ih h; omega
/-- how much room is left: if any, all is short -/
def SzCtRet (Z : List Ct) (w : World) (e : Ending) (w' : World) : Prop := ∃ n : Int, e = .returned (.int .i64 n) ∧ -1 ≤ n ∧ n ≤ 1048576 ∧ (0 ≤ n → Z.length + totC Z ≤ 1048576 ∧ ∀ x ∈ Z, x.id.size ≤ 1048576) ∧ Below w.heap.size w w'
set_option maxHeartbeats 1600000 in
theorem szCoatS_any (v : Value) (Z : List Ct) (w : World) (hlen : Z.length ≤ maxLen) (hv : CtsAt w v Z) : Calls Try.prog 13 #[v, .int .i64 1048576] w (SzCtRet Z w) := by
  unfold maxLen at hlen
  obtain ⟨a, cap, rfl, hcap, hids, hread⟩ := hv
  have hread' := Lib.hid hread
  have hids' := Lib.hid hids
  clear hread hids
  by_cases hL : Z.length ≤ 1048576
  rotate_left
  · go_enter Try.func13, Try.ntmps13
    go_wp2
    go_ret
    exact ⟨_, rfl, by omega, by omega, fun h => by omega, Below.refl _ _⟩
  go_enter Try.func13, Try.ntmps13
  go_wp2
  go_loopw [1, 5] (fun l i wr => ∃ (k : Nat) (n : Int), k ≤ Z.length ∧ i = .int .i64 k ∧ l = .int .i64 n ∧ 0 ≤ n ∧ n ≤ 1048576 ∧ Hid (n + Z.length + totC (Z.take k) ≤ 1048576 ∧ ∀ x ∈ Z.take k, x.id.size ≤ 1048576) ∧ Below w.heap.size w wr) (fun _ i _ => Z.length - (intOf i).toNat)
  case atStart => exact ⟨0, _, by omega, rfl, rfl, by omega, by omega, Lib.hid ⟨by simp [totC], by simp⟩, Below.refl _ _⟩
  case round =>
    obtain ⟨k, n, hk, rfl, rfl, hn0, hn1, hall, hb⟩ := hrel
    by_cases hlt : k < Z.length
    · rcases hread'.out with h | ⟨g, o, rfl, hg, hc⟩
      · subst h; simp at hlt
      obtain ⟨u, hu, hui⟩ := hc k hlt
      obtain ⟨x, hx⟩ : ∃ x, x = Z[k] := ⟨_, rfl⟩
      have hr := range_below hu hg hb
      rw [← hx] at hr hui
      have hxs : x.id.size ≤ maxLen ∧ x.col.length ≤ maxLen := by rw [hx]; exact hids'.out _ (List.getElem_mem hlt)
      have hui2 := hui.below hb
      have hnew : Hid ((x.id.size : Int) + x.col.length ≤ n → (n - x.id.size - x.col.length) + Z.length + totC (Z.take (k + 1)) ≤ 1048576 ∧ ∀ y ∈ Z.take (k + 1), y.id.size ≤ 1048576) := Lib.hid (by
        intro hle
        have h1 := hall.out.1
        have h2 := totC_take hlt
        rw [← hx] at h2
        refine ⟨by omega, fun y hy => ?_⟩
        rw [List.take_succ_eq_append_getElem hlt, List.mem_append] at hy
        rcases hy with hy | hy
        · exact hall.out.2 y hy
        · simp at hy; rw [hy, ← hx]; omega)
      obtain ⟨s, a, b, L⟩ := x
      simp only at hxs hnew hui2
      have cS := szCoat_any s a b u L n hn0 hn1 hxs.1 hxs.2 wr hui2
      have hr' : wr.rangeAt g (o + k * 4) [.string s, .int .i64 a, .int .i64 b, u] := hr
      have hcl : Hid (ctLeft s L n = if (s.size : Int) + L.length ≤ n then n - s.size - L.length else -1) := Lib.hid rfl
      clear hx hc hu hui hr hui2
      by_cases hsz : (s.size : Int) + L.length ≤ n
      · have e1 : ctLeft s L n = n - s.size - L.length := by rw [hcl.out, if_pos hsz]
        rw [e1] at cS
        have cS' := Lib.hid cS
        have hnn : 0 ≤ n - s.size - L.length := by omega
        have hnm : n - s.size - L.length ≤ 1048576 := by omega
        have hnew2 := Lib.hid (hnew.out hsz)
        generalize n - (s.size : Int) - (L.length : Int) = n2 at cS' hnn hnm hnew2
        clear cS e1 hcl hxs hnew hsz
        go_wp2_with (first
          | (refine wpList_load_mid rfl _ _ rfl g (o + k * 4) rfl _ _ hr' Try.underlying42 rfl rfl ?_)
          | (go_at_call 29; (with_reducible refine cS'.out.mono ?_); rintro e w2 ⟨rfl, b2⟩))
        go_roundw
        case rel => exact ⟨k + 1, n2, by omega, by go_num, rfl, by omega, by omega, hnew2, below2 hb b2⟩
        case measure => simp [intOf]; omega
      · have e1 : ctLeft s L n = -1 := by rw [hcl.out, if_neg hsz]
        rw [e1] at cS
        have cS' := Lib.hid cS
        clear cS e1 hcl hxs hnew hsz
        go_wp2_with (first
          | (refine wpList_load_mid rfl _ _ rfl g (o + k * 4) rfl _ _ hr' Try.underlying42 rfl rfl ?_)
          | (go_at_call 29; (with_reducible refine cS'.out.mono ?_); rintro e w2 ⟨rfl, b2⟩))
        go_ret
        exact ⟨_, rfl, by omega, by omega, fun h => by omega, below2 hb b2⟩
    · have hkl : k = Z.length := by omega
      have hall2 : Hid (Z.length + totC Z ≤ 1048576 ∧ ∀ x ∈ Z, x.id.size ≤ 1048576) := Lib.hid (by have := hall.out; rw [hkl, List.take_length] at this; exact ⟨by omega, this.2⟩)
      clear hkl
      go_wp2
      go_ret
      exact ⟨_, rfl, by omega, by omega, fun _ => hall2.out, hb⟩
/-- blocks below lo and from hi on are as they were -/
structure Aside (lo hi : Nat) (w w' : World) : Prop where
  os : w'.os = w.os
  tape : w'.tape = w.tape
  output : w'.output = w.output
  size : w.heap.size ≤ w'.heap.size
  block : ∀ k, k < w.heap.size → (k < lo ∨ hi ≤ k) → w'.heap[k]? = w.heap[k]?
theorem Aside.refl (lo hi : Nat) (w : World) : Aside lo hi w w := ⟨rfl, rfl, rfl, Nat.le_refl _, fun _ _ _ => rfl⟩
theorem Aside.trans {lo hi : Nat} {a b c : World} (h : Aside lo hi a b) (k : Aside lo hi b c) : Aside lo hi a c :=
  ⟨k.os.trans h.os, k.tape.trans h.tape, k.output.trans h.output, Nat.le_trans h.size k.size, fun i hi hd => (k.block i (Nat.lt_of_lt_of_le hi h.size) hd).trans (h.block i hi hd)⟩
theorem Aside.grown {lo hi : Nat} {w w' : World} {row : Option Nat} (h : w.grownBy w' row) (hr : ∀ k, row = some k → lo ≤ k ∧ k < hi) : Aside lo hi w w' :=
  ⟨h.os, h.tape, h.output, h.size, fun k hk hd => h.block k hk (fun e => by have := hr k e.symm; omega)⟩
theorem Aside.below {lo hi : Nat} {w w' : World} (h : Aside lo hi w w') (hl : lo ≤ w.heap.size) : Below lo w w' :=
  ⟨h.os, h.tape, h.output, h.size, fun k hk => h.block k (by omega) (Or.inl hk)⟩
theorem Aside.of_below {lo hi : Nat} {w w' : World} (h : Below w.heap.size w w') : Aside lo hi w w' :=
  ⟨h.os, h.tape, h.output, h.size, fun k hk _ => h.block k hk⟩
theorem own_aside {w w' : World} {a b lo hi e size n : Nat} {v : Value} {xs : List Value} (h : w.ownsRow a e size v n xs) (hb : Aside lo hi w w') (hin : ∀ k, v.ownBlock = some k → k < b) (hd : b ≤ lo ∨ hi ≤ a) : w'.ownsRow a e size v n xs := by
  refine ⟨h.1, ?_⟩
  rcases h.2 with h1 | ⟨g, cap, cur, hv, hg, hc, r⟩
  · exact Or.inl h1
  · refine Or.inr ⟨g, cap, cur, hv, hg, ?_, r⟩
    have hk := h.lt g (by rw [hv]; rfl)
    have hk2 := hin g (by rw [hv]; rfl)
    rw [hb.block g hk.2 (by omega)]
    exact hc
/-- the first structs of a row of its own, with rows of their own, all apart, all between lo and hi -/
structure OwnC (lo hi : Nat) (w : World) (g N : Nat) (Z : List Ct) (us : List Value) : Prop where
  hiW : hi ≤ w.heap.size
  gIn : lo ≤ g ∧ g < hi
  len : us.length = Z.length
  room : Z.length ≤ N
  th : w.there g 0 (N * 4)
  cells : ∀ (i : Nat) u x, us[i]? = some u → Z[i]? = some x → w.rangeAt g (i * 4) (x.cells u)
  row : ∀ (i : Nat) u x, us[i]? = some u → Z[i]? = some x → w.ownsRow lo 2 1 u x.col.length (x.col.map encI)
  apart : ∀ (i j : Nat) u u', i ≠ j → us[i]? = some u → us[j]? = some u' → u.ownBlock = none ∨ u.ownBlock ≠ u'.ownBlock
  inn : ∀ x ∈ Z, ∀ n ∈ x.col, inI n
  rowIn : ∀ (i : Nat) u, us[i]? = some u → ∀ b, u.ownBlock = some b → b < hi ∧ b ≠ g
theorem own_kept' {w w' : World} {B e size n : Nat} {v : Value} {xs : List Value} (h : w.ownsRow B e size v n xs) (hb : Below w.heap.size w w') : w'.ownsRow B e size v n xs := by
  refine ⟨h.1, ?_⟩
  rcases h.2 with h1 | ⟨g, cap, cur, hv, hg, hc, r⟩
  · exact Or.inl h1
  · exact Or.inr ⟨g, cap, cur, hv, hg, by rw [hb.block g (h.lt g (by rw [hv]; rfl)).2]; exact hc, r⟩
theorem OwnC.kept {lo hi g N : Nat} {w w' : World} {Z : List Ct} {us : List Value} (h : OwnC lo hi w g N Z us) (hb : Below w.heap.size w w') : OwnC lo hi w' g N Z us :=
  ⟨Nat.le_trans h.hiW hb.size, h.gIn, h.len, h.room, there_below h.th (Nat.lt_of_lt_of_le h.gIn.2 h.hiW) hb, fun i u x a b => range_below (h.cells i u x a b) (Nat.lt_of_lt_of_le h.gIn.2 h.hiW) hb, fun i u x a b => own_kept' (h.row i u x a b) hb, h.apart, h.inn, h.rowIn⟩
theorem OwnC.wide {lo hi hi' g N : Nat} {w : World} {Z : List Ct} {us : List Value} (h : OwnC lo hi w g N Z us) (h1 : hi ≤ hi') (h2 : hi' ≤ w.heap.size) : OwnC lo hi' w g N Z us :=
  ⟨h2, ⟨h.gIn.1, Nat.lt_of_lt_of_le h.gIn.2 h1⟩, h.len, h.room, h.th, h.cells, h.row, h.apart, h.inn, fun i u e b hb => ⟨Nat.lt_of_lt_of_le (h.rowIn i u e b hb).1 h1, (h.rowIn i u e b hb).2⟩⟩
theorem OwnC.at {lo hi g N cap : Nat} {w : World} {Z : List Ct} {us : List Value} (h : OwnC lo hi w g N Z us) (hcap : Z.length ≤ cap) (hids : ∀ x ∈ Z, x.id.size ≤ maxLen ∧ x.col.length ≤ maxLen) : CtsAt w (.slice (some ⟨g, 0, none⟩) Z.length cap) Z := by
  refine ⟨_, cap, rfl, hcap, hids, Or.inr ⟨g, 0, rfl, Nat.lt_of_lt_of_le h.gIn.2 h.hiW, fun i hi => ?_⟩⟩
  have hu : us[i]? = some (us[i]'(by rw [h.len]; exact hi)) := List.getElem?_eq_getElem _
  have hx : Z[i]? = some Z[i] := List.getElem?_eq_getElem hi
  exact ⟨_, by rw [Nat.zero_add]; exact h.cells i _ _ hu hx, ints_own (h.row i _ _ hu hx) (h.inn _ (List.getElem_mem hi))⟩
theorem OwnC.empty {lo g N : Nat} {w : World} (h1 : lo ≤ g) (h2 : g < w.heap.size) (h3 : w.there g 0 (N * 4)) : OwnC lo w.heap.size w g N [] [] :=
  ⟨Nat.le_refl _, ⟨h1, h2⟩, rfl, Nat.zero_le _, h3, fun i u x h => by simp at h, fun i u x h => by simp at h, fun i j u u' _ h => by simp at h, fun x h => by simp at h, fun i u h => by simp at h⟩
theorem snoc_get {α : Type} {l : List α} {a b : α} {i : Nat} (h : (l ++ [a])[i]? = some b) : (i < l.length ∧ l[i]? = some b) ∨ (i = l.length ∧ a = b) := by
  by_cases hi : i < l.length
  · left; rw [List.getElem?_append_left hi] at h; exact ⟨hi, h⟩
  · right
    rw [List.getElem?_append_right (by omega)] at h
    have h2 : i - l.length = 0 := by
      have := (List.getElem?_eq_some_iff.1 h).1
      simp at this; omega
    rw [h2] at h
    simp at h
    exact ⟨by omega, h⟩
/-- one more struct is laid, its row is new -/
theorem OwnC.snoc {lo g N : Nat} {w w1 : World} {Z : List Ct} {us : List Value} {x : Ct} {u : Value} (h : OwnC lo w.heap.size w g N Z us) (hN : Z.length < N) (hb : Below w.heap.size w w1) (hu : w1.ownsRow w.heap.size 2 1 u x.col.length (x.col.map encI)) (hz : ∀ n ∈ x.col, inI n) (o : Nat) (ho : o = Z.length * 4) :
    OwnC lo (w1.setCells g o (x.cells u)).heap.size (w1.setCells g o (x.cells u)) g N (Z ++ [x]) (us ++ [u]) := by
  subst ho
  have h1 := h.kept hb
  have hlo : lo ≤ w.heap.size := by have := h.gIn; omega
  have hg2 : g < w.heap.size := h.gIn.2
  have hgr : w1.grownBy (w1.setCells g (Z.length * 4) (x.cells u)) (some g) := grownSets _ _ _ _
  have hsz : (w1.setCells g (Z.length * 4) (x.cells u)).heap.size = w1.heap.size := size_sets _ _ _ _
  have hu2 : (w1.setCells g (Z.length * 4) (x.cells u)).ownsRow lo 2 1 u x.col.length (x.col.map encI) := (own_low hu hlo).kept hgr (Or.inr (fun e => by have := (hu.lt _ e).1; omega))
  refine ⟨Nat.le_refl _, ⟨h.gIn.1, by rw [hsz]; exact Nat.lt_of_lt_of_le hg2 hb.size⟩, by simp [h.len], by simp; omega, World.there_setCells h1.th _ _ _, ?_, ?_, ?_, ?_, ?_⟩
  · intro i u' x' e1 e2
    rcases snoc_get e1 with ⟨i1, e1⟩ | ⟨i1, e1⟩
    · rcases snoc_get e2 with ⟨i2, e2⟩ | ⟨i2, e2⟩
      · exact World.rangeAt_setCells_apart (h1.cells i u' x' e1 e2) _ _ _ (Or.inr (Or.inl (by simp [Ct.cells]; omega)))
      · have := h.len; omega
    · rcases snoc_get e2 with ⟨i2, e2⟩ | ⟨i2, e2⟩
      · have := h.len; omega
      · subst e1 e2; rw [i2]
        exact World.rangeAt_setCells_same _ _ _ _ (there_part h1.th _ _ (by simp [Ct.cells]; omega))
  · intro i u' x' e1 e2
    rcases snoc_get e1 with ⟨i1, e1⟩ | ⟨i1, e1⟩
    · rcases snoc_get e2 with ⟨i2, e2⟩ | ⟨i2, e2⟩
      · exact (h1.row i u' x' e1 e2).kept hgr (by
          cases e3 : u'.ownBlock with
          | none => exact Or.inl rfl
          | some b => right; intro hh; exact (h1.rowIn i u' e1 b e3).2 (by injection hh))
      · have := h.len; omega
    · rcases snoc_get e2 with ⟨i2, e2⟩ | ⟨i2, e2⟩
      · have := h.len; omega
      · subst e1 e2; exact hu2
  · intro i j u1 u2 hij e1 e2
    rcases snoc_get e1 with ⟨i1, e1⟩ | ⟨i1, e1⟩
    · rcases snoc_get e2 with ⟨i2, e2⟩ | ⟨i2, e2⟩
      · exact h.apart i j u1 u2 hij e1 e2
      · subst e2
        cases e3 : u1.ownBlock with
        | none => exact Or.inl rfl
        | some b => right; intro hh; have := (h.rowIn i u1 e1 b e3).1; have := (hu.lt b hh.symm).1; omega
    · rcases snoc_get e2 with ⟨i2, e2⟩ | ⟨i2, e2⟩
      · subst e1
        cases e3 : u.ownBlock with
        | none => exact Or.inl rfl
        | some b => right; intro hh; have := (h.rowIn j u2 e2 b hh.symm).1; have := (hu.lt b e3).1; omega
      · omega
  · intro y hy
    rcases List.mem_append.1 hy with hy | hy
    · exact h.inn y hy
    · simp at hy; subst hy; exact hz
  · intro i u' e1 b hb2
    rcases snoc_get e1 with ⟨i1, e1⟩ | ⟨i1, e1⟩
    · have := h.rowIn i u' e1 b hb2
      exact ⟨by rw [hsz]; exact Nat.lt_of_lt_of_le this.1 hb.size, this.2⟩
    · subst e1
      have := hu.lt b hb2
      exact ⟨by rw [hsz]; exact this.2, by omega⟩
theorem infoCt : (Try.prog.info? 45).map (fun i => (i.zero, i.size, i.bytes)) = some (some (.agg #[.string ByteArray.empty, .int .i64 0, .int .i64 0, .slice none 0 0]), 4, 56) := by kernel_rfl
/-- a new row is handed back, and where it lies -/
def CtsNew (Z : List Ct) (w : World) (e : Ending) (w' : World) : Prop := ∃ us, e = .returned (.slice (some ⟨w.heap.size, 0, none⟩) Z.length Z.length) ∧ OwnC w.heap.size w'.heap.size w' w.heap.size Z.length Z us ∧ CtsAt w' (.slice (some ⟨w.heap.size, 0, none⟩) Z.length Z.length) Z ∧ Below w.heap.size w w'
end Go.Proofs.Ytjnpladpegmiiaa
