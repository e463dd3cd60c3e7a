/-
  Texts that stand together: Cts, Cts2, CtsV.
-/
import Derived.Deep.RegionHeld3
import Derived.OwnWalk
import Derived.WalkLawsBesides
import Derived.Test.YtgfhjcbmilaegaaGreatDoorMg3
namespace Go.Proofs.YtgfhjcbmilaegaaGreatDoor
open Go.ChangeShapes Go.WideShapes Go.ChangeAt Go.RowKit Go.Deep
set_option linter.unusedVariables false
set_option linter.unusedSimpArgs false
set_option maxRecDepth 1000000
/-- v reads as the structs Z -/
def CtsAt (w : World) (v : Value) (Z : List Ct) : Prop :=
  ∃ a cap, v = .slice a Z.length cap ∧ Z.length ≤ cap ∧ (∀ x ∈ Z, x.id.size ≤ maxLen ∧ x.col.length ≤ maxLen) ∧ (Z = [] ∨ ∃ g o, a = some ⟨g, o, none⟩ ∧ g < w.heap.size ∧ ∀ i (hi : i < Z.length), ∃ u, w.rangeAt g (o + i * 4) (Z[i].cells u) ∧ IntsAt w u Z[i].col)
theorem CtsAt.below {w w' : World} {v : Value} {Z : List Ct} (h : CtsAt w v Z) (hb : Below w.heap.size w w') : CtsAt w' v Z := by
  obtain ⟨a, cap, h1, h2, h3, h4⟩ := h
  refine ⟨a, cap, h1, h2, h3, ?_⟩
  rcases h4 with h4 | ⟨g, o, e, hg, hc⟩
  · exact Or.inl h4
  · refine Or.inr ⟨g, o, e, Nat.lt_of_lt_of_le hg hb.size, fun i hi => ?_⟩
    obtain ⟨u, hu, hi2⟩ := hc i hi
    exact ⟨u, range_below hu hg hb, hi2.below hb⟩
/-- what the walk is told of an argument -/
def CtsV (w : World) (v : Value) : Prop := ∃ Z, CtsAt w v Z ∧ Z.length ≤ maxLen
/-- how many numbers all colours have -/
def totC (Z : List Ct) : Nat := (Z.map (fun x => x.col.length)).sum
theorem totC_append (G H : List Ct) : totC (G ++ H) = totC G + totC H := by simp [totC]
theorem totC_take {G : List Ct} {k : Nat} (h : k < G.length) : totC (G.take (k + 1)) = totC (G.take k) + G[k].col.length := by
  rw [List.take_succ_eq_append_getElem h, totC_append]; simp [totC]
theorem totC_ge {G : List Ct} {x : Ct} (h : x ∈ G) : x.col.length ≤ totC G := by
  induction G with
  | nil => cases h
  | cons Y G ih =>
    have e : totC (Y :: G) = Y.col.length + totC G := rfl
    rw [e]
    rcases List.mem_cons.1 h with rfl | h
    · omega
    · have := ih h; omega
/-- how much room is left: if any, all is short -/
def SzCtRet (Z : List Ct) (w : World) (e : Ending) (w' : World) : Prop := ∃ n : Int, e = .returned (.int .i64 n) ∧ -1 ≤ n ∧ n ≤ 1048576 ∧ (0 ≤ n → Z.length + totC Z ≤ 1048576 ∧ ∀ x ∈ Z, x.id.size ≤ 1048576) ∧ Below w.heap.size w w'
/-- blocks below lo and from hi on are as they were -/
structure Aside (lo hi : Nat) (w w' : World) : Prop where
  os : w'.os = w.os
  tape : w'.tape = w.tape
  output : w'.output = w.output
  size : w.heap.size ≤ w'.heap.size
  block : ∀ k, k < w.heap.size → (k < lo ∨ hi ≤ k) → w'.heap[k]? = w.heap[k]?
theorem Aside.refl (lo hi : Nat) (w : World) : Aside lo hi w w := ⟨rfl, rfl, rfl, Nat.le_refl _, fun _ _ _ => rfl⟩
theorem Aside.trans {lo hi : Nat} {a b c : World} (h : Aside lo hi a b) (k : Aside lo hi b c) : Aside lo hi a c :=
  ⟨k.os.trans h.os, k.tape.trans h.tape, k.output.trans h.output, Nat.le_trans h.size k.size, fun i hi hd => (k.block i (Nat.lt_of_lt_of_le hi h.size) hd).trans (h.block i hi hd)⟩
theorem Aside.grown {lo hi : Nat} {w w' : World} {row : Option Nat} (h : w.grownBy w' row) (hr : ∀ k, row = some k → lo ≤ k ∧ k < hi) : Aside lo hi w w' :=
  ⟨h.os, h.tape, h.output, h.size, fun k hk hd => h.block k hk (fun e => by have := hr k e.symm; omega)⟩
theorem Aside.below {lo hi : Nat} {w w' : World} (h : Aside lo hi w w') (hl : lo ≤ w.heap.size) : Below lo w w' :=
  ⟨h.os, h.tape, h.output, h.size, fun k hk => h.block k (by omega) (Or.inl hk)⟩
theorem Aside.of_below {lo hi : Nat} {w w' : World} (h : Below w.heap.size w w') : Aside lo hi w w' :=
  ⟨h.os, h.tape, h.output, h.size, fun k hk _ => h.block k hk⟩
theorem own_aside {w w' : World} {a b lo hi e size n : Nat} {v : Value} {xs : List Value} (h : w.ownsRow a e size v n xs) (hb : Aside lo hi w w') (hin : ∀ k, v.ownBlock = some k → k < b) (hd : b ≤ lo ∨ hi ≤ a) : w'.ownsRow a e size v n xs := by
  refine ⟨h.1, ?_⟩
  rcases h.2 with h1 | ⟨g, cap, cur, hv, hg, hc, r⟩
  · exact Or.inl h1
  · refine Or.inr ⟨g, cap, cur, hv, hg, ?_, r⟩
    have hk := h.lt g (by rw [hv]; rfl)
    have hk2 := hin g (by rw [hv]; rfl)
    rw [hb.block g hk.2 (by omega)]
    exact hc
/-- the first structs of a row of its own, with rows of their own, all apart, all between lo and hi -/
structure OwnC (lo hi : Nat) (w : World) (g N : Nat) (Z : List Ct) (us : List Value) : Prop where
  hiW : hi ≤ w.heap.size
  gIn : lo ≤ g ∧ g < hi
  len : us.length = Z.length
  room : Z.length ≤ N
  th : w.there g 0 (N * 4)
  cells : ∀ (i : Nat) u x, us[i]? = some u → Z[i]? = some x → w.rangeAt g (i * 4) (x.cells u)
  row : ∀ (i : Nat) u x, us[i]? = some u → Z[i]? = some x → w.ownsRow lo 2 1 u x.col.length (x.col.map encI)
  apart : ∀ (i j : Nat) u u', i ≠ j → us[i]? = some u → us[j]? = some u' → u.ownBlock = none ∨ u.ownBlock ≠ u'.ownBlock
  inn : ∀ x ∈ Z, ∀ n ∈ x.col, inI n
  rowIn : ∀ (i : Nat) u, us[i]? = some u → ∀ b, u.ownBlock = some b → b < hi ∧ b ≠ g
theorem own_kept' {w w' : World} {B e size n : Nat} {v : Value} {xs : List Value} (h : w.ownsRow B e size v n xs) (hb : Below w.heap.size w w') : w'.ownsRow B e size v n xs := by
  refine ⟨h.1, ?_⟩
  rcases h.2 with h1 | ⟨g, cap, cur, hv, hg, hc, r⟩
  · exact Or.inl h1
  · exact Or.inr ⟨g, cap, cur, hv, hg, by rw [hb.block g (h.lt g (by rw [hv]; rfl)).2]; exact hc, r⟩
theorem OwnC.kept {lo hi g N : Nat} {w w' : World} {Z : List Ct} {us : List Value} (h : OwnC lo hi w g N Z us) (hb : Below w.heap.size w w') : OwnC lo hi w' g N Z us :=
  ⟨Nat.le_trans h.hiW hb.size, h.gIn, h.len, h.room, there_below h.th (Nat.lt_of_lt_of_le h.gIn.2 h.hiW) hb, fun i u x a b => range_below (h.cells i u x a b) (Nat.lt_of_lt_of_le h.gIn.2 h.hiW) hb, fun i u x a b => own_kept' (h.row i u x a b) hb, h.apart, h.inn, h.rowIn⟩
theorem OwnC.wide {lo hi hi' g N : Nat} {w : World} {Z : List Ct} {us : List Value} (h : OwnC lo hi w g N Z us) (h1 : hi ≤ hi') (h2 : hi' ≤ w.heap.size) : OwnC lo hi' w g N Z us :=
  ⟨h2, ⟨h.gIn.1, Nat.lt_of_lt_of_le h.gIn.2 h1⟩, h.len, h.room, h.th, h.cells, h.row, h.apart, h.inn, fun i u e b hb => ⟨Nat.lt_of_lt_of_le (h.rowIn i u e b hb).1 h1, (h.rowIn i u e b hb).2⟩⟩
theorem OwnC.at {lo hi g N cap : Nat} {w : World} {Z : List Ct} {us : List Value} (h : OwnC lo hi w g N Z us) (hcap : Z.length ≤ cap) (hids : ∀ x ∈ Z, x.id.size ≤ maxLen ∧ x.col.length ≤ maxLen) : CtsAt w (.slice (some ⟨g, 0, none⟩) Z.length cap) Z := by
  refine ⟨_, cap, rfl, hcap, hids, Or.inr ⟨g, 0, rfl, Nat.lt_of_lt_of_le h.gIn.2 h.hiW, fun i hi => ?_⟩⟩
  have hu : us[i]? = some (us[i]'(by rw [h.len]; exact hi)) := List.getElem?_eq_getElem _
  have hx : Z[i]? = some Z[i] := List.getElem?_eq_getElem hi
  exact ⟨_, by rw [Nat.zero_add]; exact h.cells i _ _ hu hx, ints_own (h.row i _ _ hu hx) (h.inn _ (List.getElem_mem hi))⟩
theorem OwnC.empty {lo g N : Nat} {w : World} (h1 : lo ≤ g) (h2 : g < w.heap.size) (h3 : w.there g 0 (N * 4)) : OwnC lo w.heap.size w g N [] [] :=
  ⟨Nat.le_refl _, ⟨h1, h2⟩, rfl, Nat.zero_le _, h3, fun i u x h => by simp at h, fun i u x h => by simp at h, fun i j u u' _ h => by simp at h, fun x h => by simp at h, fun i u h => by simp at h⟩
theorem snoc_get {α : Type} {l : List α} {a b : α} {i : Nat} (h : (l ++ [a])[i]? = some b) : (i < l.length ∧ l[i]? = some b) ∨ (i = l.length ∧ a = b) := by
  by_cases hi : i < l.length
  · left; rw [List.getElem?_append_left hi] at h; exact ⟨hi, h⟩
  · right
    rw [List.getElem?_append_right (by omega)] at h
    have h2 : i - l.length = 0 := by
      have := (List.getElem?_eq_some_iff.1 h).1
      simp at this; omega
    rw [h2] at h
    simp at h
    exact ⟨by omega, h⟩
/-- one more struct is laid, its row is new -/
theorem OwnC.snoc {lo g N : Nat} {w w1 : World} {Z : List Ct} {us : List Value} {x : Ct} {u : Value} (h : OwnC lo w.heap.size w g N Z us) (hN : Z.length < N) (hb : Below w.heap.size w w1) (hu : w1.ownsRow w.heap.size 2 1 u x.col.length (x.col.map encI)) (hz : ∀ n ∈ x.col, inI n) (o : Nat) (ho : o = Z.length * 4) :
    OwnC lo (w1.setCells g o (x.cells u)).heap.size (w1.setCells g o (x.cells u)) g N (Z ++ [x]) (us ++ [u]) := by
  subst ho
  have h1 := h.kept hb
  have hlo : lo ≤ w.heap.size := by have := h.gIn; omega
  have hg2 : g < w.heap.size := h.gIn.2
  have hgr : w1.grownBy (w1.setCells g (Z.length * 4) (x.cells u)) (some g) := grownSets _ _ _ _
  have hsz : (w1.setCells g (Z.length * 4) (x.cells u)).heap.size = w1.heap.size := size_sets _ _ _ _
  have hu2 : (w1.setCells g (Z.length * 4) (x.cells u)).ownsRow lo 2 1 u x.col.length (x.col.map encI) := (own_low hu hlo).kept hgr (Or.inr (fun e => by have := (hu.lt _ e).1; omega))
  refine ⟨Nat.le_refl _, ⟨h.gIn.1, by rw [hsz]; exact Nat.lt_of_lt_of_le hg2 hb.size⟩, by simp [h.len], by simp; omega, World.there_setCells h1.th _ _ _, ?_, ?_, ?_, ?_, ?_⟩
  · intro i u' x' e1 e2
    rcases snoc_get e1 with ⟨i1, e1⟩ | ⟨i1, e1⟩
    · rcases snoc_get e2 with ⟨i2, e2⟩ | ⟨i2, e2⟩
      · exact World.rangeAt_setCells_apart (h1.cells i u' x' e1 e2) _ _ _ (Or.inr (Or.inl (by simp [Ct.cells]; omega)))
      · have := h.len; omega
    · rcases snoc_get e2 with ⟨i2, e2⟩ | ⟨i2, e2⟩
      · have := h.len; omega
      · subst e1 e2; rw [i2]
        exact World.rangeAt_setCells_same _ _ _ _ (there_part h1.th _ _ (by simp [Ct.cells]; omega))
  · intro i u' x' e1 e2
    rcases snoc_get e1 with ⟨i1, e1⟩ | ⟨i1, e1⟩
    · rcases snoc_get e2 with ⟨i2, e2⟩ | ⟨i2, e2⟩
      · exact (h1.row i u' x' e1 e2).kept hgr (by
          cases e3 : u'.ownBlock with
          | none => exact Or.inl rfl
          | some b => right; intro hh; exact (h1.rowIn i u' e1 b e3).2 (by injection hh))
      · have := h.len; omega
    · rcases snoc_get e2 with ⟨i2, e2⟩ | ⟨i2, e2⟩
      · have := h.len; omega
      · subst e1 e2; exact hu2
  · intro i j u1 u2 hij e1 e2
    rcases snoc_get e1 with ⟨i1, e1⟩ | ⟨i1, e1⟩
    · rcases snoc_get e2 with ⟨i2, e2⟩ | ⟨i2, e2⟩
      · exact h.apart i j u1 u2 hij e1 e2
      · subst e2
        cases e3 : u1.ownBlock with
        | none => exact Or.inl rfl
        | some b => right; intro hh; have := (h.rowIn i u1 e1 b e3).1; have := (hu.lt b hh.symm).1; omega
    · rcases snoc_get e2 with ⟨i2, e2⟩ | ⟨i2, e2⟩
      · subst e1
        cases e3 : u.ownBlock with
        | none => exact Or.inl rfl
        | some b => right; intro hh; have := (h.rowIn j u2 e2 b hh.symm).1; have := (hu.lt b e3).1; omega
      · omega
  · intro y hy
    rcases List.mem_append.1 hy with hy | hy
    · exact h.inn y hy
    · simp at hy; subst hy; exact hz
  · intro i u' e1 b hb2
    rcases snoc_get e1 with ⟨i1, e1⟩ | ⟨i1, e1⟩
    · have := h.rowIn i u' e1 b hb2
      exact ⟨by rw [hsz]; exact Nat.lt_of_lt_of_le this.1 hb.size, this.2⟩
    · subst e1
      have := hu.lt b hb2
      exact ⟨by rw [hsz]; exact this.2, by omega⟩
theorem infoCt : (Tryz.prog.info? 36).map (fun i => (i.zero, i.size, i.bytes)) = some (some (.agg #[.string ByteArray.empty, .int .i64 0, .int .i64 0, .slice none 0 0]), 4, 56) := by kernel_rfl
/-- a new row is handed back, and where it lies -/
def CtsNew (Z : List Ct) (w : World) (e : Ending) (w' : World) : Prop := ∃ us, e = .returned (.slice (some ⟨w.heap.size, 0, none⟩) Z.length Z.length) ∧ OwnC w.heap.size w'.heap.size w' w.heap.size Z.length Z us ∧ CtsAt w' (.slice (some ⟨w.heap.size, 0, none⟩) Z.length Z.length) Z ∧ Below w.heap.size w w'
end Go.Proofs.YtgfhjcbmilaegaaGreatDoor
namespace Go.Proofs.YtgfhjcbmilaegaaGreatDoor
open Go.ChangeShapes Go.WideShapes Go.ChangeAt Go.RowKit Go.Deep
set_option linter.unusedVariables false
set_option linter.unusedSimpArgs false
set_option maxRecDepth 1000000
theorem cts_take_len {Z : List Ct} {k : Nat} (h : k ≤ Z.length) : (Z.take k).length = k := by rw [List.length_take]; omega
end Go.Proofs.YtgfhjcbmilaegaaGreatDoor
namespace Go.Proofs.YtgfhjcbmilaegaaGreatDoor
open Go.ChangeShapes Go.WideShapes Go.ChangeAt Go.RowKit Go.Deep
set_option linter.unusedVariables false
set_option linter.unusedSimpArgs false
set_option maxRecDepth 1000000
def ct0 : Ct := ⟨ByteArray.empty, 0, 0, []⟩
/-- is plank number i valid, and its Id behind the one before it? -/
def ct_stepOK (Z : List Ct) (i : Nat) : Bool := ctB (Z.getD i ct0) && (decide (i = 0) || Op.bytesLess (Z.getD (i - 1) ct0).id.toList (Z.getD i ct0).id.toList)
def ct_okK (Z : List Ct) : Nat → Bool
  | 0 => true
  | k + 1 => ct_okK Z k && ct_stepOK Z k
def ctsB (Z : List Ct) : Bool := ct_okK Z Z.length && decide (Z.length ≤ 10)
theorem ct_okK_no {Z : List Ct} {k : Nat} (h : ct_stepOK Z k = false) : ∀ n, k < n → ct_okK Z n = false
  | 0, hk => by omega
  | n + 1, hk => by
    unfold ct_okK
    by_cases e : k = n
    · subst e; rw [h, Bool.and_false]
    · rw [ct_okK_no h n (by omega), Bool.false_and]
theorem ct_okK_yes {Z : List Ct} {k : Nat} (h : ct_okK Z k = true) (hs : ct_stepOK Z k = true) : ct_okK Z (k + 1) = true := by unfold ct_okK; rw [h, hs]; rfl
theorem ctsB_no {Z : List Ct} {k : Nat} (h : ct_stepOK Z k = false) (hk : k < Z.length) : ctsB Z = false := by unfold ctsB; rw [ct_okK_no h _ hk]; rfl
theorem ct_getD_at' {Z : List Ct} {k : Nat} (h : k < Z.length) : Z.getD k ct0 = Z[k] := by rw [List.getD_eq_getElem?_getD, List.getElem?_eq_getElem h]; rfl
theorem ct_step_bad {Z : List Ct} {k : Nat} (h : k < Z.length) {x : Ct} (hx : x = Z[k]) (hv : ctB x = false) : ct_stepOK Z k = false := by unfold ct_stepOK; rw [ct_getD_at' h, ← hx, hv]; rfl
theorem ct_step_first {Z : List Ct} (h : 0 < Z.length) {x : Ct} (hx : x = Z[0]) (hv : ctB x = true) : ct_stepOK Z 0 = true := by unfold ct_stepOK; rw [ct_getD_at' h, ← hx, hv]; rfl
theorem ct_step_next {Z : List Ct} {q : Nat} (h : q + 1 < Z.length) {x y : Ct} (hx : x = Z[q + 1]) (hy : y = Z[q]'(by omega)) (hv : ctB x = true) : ct_stepOK Z (q + 1) = Op.bytesLess y.id.toList x.id.toList := by
  unfold ct_stepOK
  rw [ct_getD_at' h, ← hx, hv, show q + 1 - 1 = q by omega, ct_getD_at' (by omega : q < Z.length), ← hy]; simp
set_option maxHeartbeats 1600000 in
theorem l13Ok_any (v : Value) (Z : List Ct) (w : World) (hn : Z.length ≤ 1048576) (hv : CtsAt w v Z) : Calls Tryz.prog 43 #[v] w fun e w' => e = .returned (.bool (ctsB Z)) ∧ DrewOf w w' := by
  obtain ⟨p, cap, rfl, hcap, hids, hread⟩ := hv
  have hread' := Lib.hid hread
  have hids' := Lib.hid hids
  clear hread hids
  go_enter Tryz.func43, Tryz.ntmps43
  go_wp2
  go_loopw [3] (fun i wr => ∃ k : Nat, k ≤ Z.length ∧ i = .int .i64 k ∧ Hid (ct_okK Z k = true) ∧ DrewOf w wr) (fun i _ => Z.length - (intOf i).toNat)
  case atStart => exact ⟨0, by omega, rfl, Lib.hid rfl, DrewOf.refl _⟩
  case round =>
    obtain ⟨k, hk, rfl, hok, hd⟩ := hrel
    by_cases hlt : k < Z.length
    · rcases hread'.out with h | ⟨g, o, rfl, hg, hc⟩
      · subst h; simp at hlt
      obtain ⟨x, hx⟩ : ∃ x, x = Z[k] := ⟨_, rfl⟩
      obtain ⟨u, hu, hui⟩ := hc k hlt
      have hr := hd.range hu
      have hi3 := hui.below hd.below
      rw [← hx] at hr hi3
      have hat := Lib.hid (ctAt_of hr hi3)
      have hrn' : Hid (∀ n, CtAt (wr.drewN n) g (o + k * 4) x u) := Lib.hid (fun n => ctAt_of hr (hi3.drewN n))
      have hxs : x.id.size ≤ maxLen ∧ x.col.length ≤ maxLen := by rw [hx]; exact hids'.out _ (List.getElem_mem hlt)
      have hx' := Lib.hid hx
      obtain ⟨s, a, b, L⟩ := x
      have hxs' := Lib.hid hxs
      have cO0 : ∀ n, Calls Tryz.prog 61 #[.pointer (some ⟨g, o + k * 4, none⟩)] (wr.drewN n) fun e w' => e = .returned (.bool (ctB ⟨s, a, b, L⟩)) ∧ wr.drewN n = w' := fun n => l13One_any ⟨s, a, b, L⟩ u g (o + k * 4) hxs'.out.1 hxs'.out.2 (wr.drewN n) (hrn'.out n)
      clear hr hx hxs hu hui hi3
      cases hb : ctB ⟨s, a, b, L⟩
      · rw [hb] at cO0
        have cO := Lib.hid cO0
        have hno := Lib.hid (ctsB_no (ct_step_bad hlt hx'.out hb) hlt)
        clear cO0 hc
        go_wp2
        go_quiet ((go_at_call 61; exact Qs (cO.out _)))
        go_wp2
        go_ret
        exact ⟨ret_bool hno.out.symm, hd.more _⟩
      · rw [hb] at cO0
        have cO := Lib.hid cO0
        clear cO0
        rcases Nat.eq_zero_or_pos k with hk0 | hk0
        · subst hk0
          have hst := Lib.hid (ct_okK_yes hok.out (ct_step_first hlt hx'.out hb))
          have hg0 : decide ((0 : Int) < ((0 : Nat) : Int)) = false := by decide
          clear hc
          go_wp2
          go_quiet ((go_at_call 61; exact Qs (cO.out _)))
          go_wp2
          go_roundw
          case rel => exact ⟨1, by omega, by go_num, hst, hd.more _⟩
          case measure => simp [intOf]; omega
        · obtain ⟨q, rfl⟩ : ∃ q, k = q + 1 := ⟨k - 1, by omega⟩
          obtain ⟨y, hy⟩ : ∃ y, y = Z[q] := ⟨_, rfl⟩
          obtain ⟨u2, hu2, _⟩ := hc q (by omega)
          have hr2 := hd.range hu2
          rw [← hy] at hr2
          have c0y : wr.cell? ⟨g, o + q * 4, none⟩ = some (.string y.id) := by simpa using hr2 0 _ rfl
          have hstep := ct_step_next hlt hx'.out hy hb
          have c0x := hat.out.1.1
          simp only at c0x
          have e1 : IntKind.i64.wrap ((q : Int) + 1 - 1) = (q : Int) := by rw [show (q : Int) + 1 - 1 = q by omega]; exact IntWalk.i64_in _ (by omega)
          have hg0 : decide ((0 : Int) < (q : Int) + 1) = true := by simp <;> omega
          have hq1 : (q : Int) < (Z.length : Int) := by omega
          clear hr2 hu2 hy hc
          cases hl : Op.bytesLess y.id.toList s.toList
          · rw [hl] at hstep
            have hno := Lib.hid (ctsB_no hstep hlt)
            clear hstep
            go_wp2
            go_quiet ((go_at_call 61; exact Qs (cO.out _)))
            go_wp2
            go_ret
            exact ⟨ret_bool hno.out.symm, hd.more _⟩
          · rw [hl] at hstep
            have hst := Lib.hid (ct_okK_yes hok.out hstep)
            clear hstep
            go_wp2
            go_quiet ((go_at_call 61; exact Qs (cO.out _)))
            go_wp2
            go_roundw
            case rel => exact ⟨q + 1 + 1, by omega, by go_num, hst, hd.more _⟩
            case measure => simp [intOf]; omega
    · have hkl : k = Z.length := by omega
      have hall : Hid (ct_okK Z Z.length = true) := Lib.hid (hkl ▸ hok.out)
      have hfin : Hid (ctsB Z = decide (Z.length ≤ 10)) := Lib.hid (by unfold ctsB; rw [hall.out]; rfl)
      clear hkl
      by_cases h16 : Z.length ≤ 10
      all_goals
        go_wp2
        go_ret
        exact ⟨ret_bool (by rw [hfin.out]; first | (simp [h16]; done) | (simp; omega) | (simp [h16]; omega)), hd⟩
end Go.Proofs.YtgfhjcbmilaegaaGreatDoor
