/-
  Texts that stand together: Name, Units, Ct, DigMath, Mark.
-/
import Derived.Deep.Cut
import Derived.Lib.ItoaNum
import Derived.Deep.RegionHeld3
import Derived.Deep.DeepCutAuto
import Derived.Test.YtgfhjcbmilaegaaGreatDoorMg1
import Derived.Test.YtgfhjcbmilaegaaGreatDoorMg2
namespace Go.Proofs.YtgfhjcbmilaegaaGreatDoor
open Go.ChangeShapes Go.WideShapes Go.ChangeAt Go.RowKit
set_option linter.unusedVariables false
set_option linter.unusedSimpArgs false

theorem withinI_any (n lo hi : Int) (w : World) : Calls Tryz.prog 66 #[.int .i64 n, .int .i64 lo, .int .i64 hi] w fun e w' => e = .returned (.bool (inB n lo hi)) ∧ w = w' := by
  by_cases h1 : lo ≤ n <;> by_cases h2 : n ≤ hi
  all_goals
    go_enter Tryz.func66, Tryz.ntmps66
    go_wp2
    go_ret
    exact ⟨ret_bool (by simp [inB, h1, h2]), rfl⟩
theorem withinB_any (n lo hi : Int) (w : World) : Calls Tryz.prog 81 #[.int .u8 n, .int .u8 lo, .int .u8 hi] w fun e w' => e = .returned (.bool (inB n lo hi)) ∧ w = w' := by
  by_cases h1 : lo ≤ n <;> by_cases h2 : n ≤ hi
  all_goals
    go_enter Tryz.func81, Tryz.ntmps81
    go_wp2
    go_ret
    exact ⟨ret_bool (by simp [inB, h1, h2]), rfl⟩
theorem isLetter_any (c : UInt8) (w : World) : Calls Tryz.prog 67 #[.int .u8 c.toNat] w fun e w' => e = .returned (.bool (lb c)) ∧ w = w' := by
  go_enter Tryz.func67, Tryz.ntmps67
  go_wp2_with (go_at_call 81; refine (withinB_any _ _ _ _).mono ?_; rintro e w' ⟨rfl, rfl⟩)
  go_ret
  exact ⟨rfl, rfl⟩
theorem isDigit_any (c : UInt8) (w : World) : Calls Tryz.prog 68 #[.int .u8 c.toNat] w fun e w' => e = .returned (.bool (db c)) ∧ w = w' := by
  go_enter Tryz.func68, Tryz.ntmps68
  go_wp2_with (go_at_call 81; refine (withinB_any _ _ _ _).mono ?_; rintro e w' ⟨rfl, rfl⟩)
  go_ret
  exact ⟨rfl, rfl⟩
theorem l01Small_any (c : UInt8) (w : World) : Calls Tryz.prog 95 #[.int .u8 c.toNat] w fun e w' => e = .returned (.bool (lb c)) ∧ w = w' := by
  by_cases h1 : (97 : Int) ≤ c.toNat <;> by_cases h2 : (c.toNat : Int) ≤ 122
  all_goals
    go_enter Tryz.func95, Tryz.ntmps95
    go_wp2
    go_ret
    exact ⟨ret_bool (by rw [← lb_of]; unfold inB; simp [h1, h2]), rfl⟩
theorem l01Digit_any (c : UInt8) (w : World) : Calls Tryz.prog 96 #[.int .u8 c.toNat] w fun e w' => e = .returned (.bool (db c)) ∧ w = w' := by
  by_cases h1 : (48 : Int) ≤ c.toNat <;> by_cases h2 : (c.toNat : Int) ≤ 57
  all_goals
    go_enter Tryz.func96, Tryz.ntmps96
    go_wp2
    go_ret
    exact ⟨ret_bool (by rw [← db_of]; unfold inB; simp [h1, h2]), rfl⟩

theorem empty_yes (s : ByteArray) (h : s.size = 0) : s.toList.isEmpty = true := by
  rw [ByteArray.toList_eq, List.isEmpty_iff_length_eq_zero]; exact h
theorem empty_no (s : ByteArray) (h : ¬ s.size = 0) : s.toList.isEmpty = false := by
  rw [ByteArray.toList_eq]
  cases e : s.data.toList with
  | nil => exact absurd (by rw [← len_data, e]; rfl) h
  | cons a l => rfl

set_option maxHeartbeats 1000000 in
theorem l01Name_any (s : ByteArray) (w : World) (hs : s.size ≤ maxLen) : Calls Tryz.prog 79 #[.string s] w fun e w' => e = .returned (.bool (nameL s.data.toList)) ∧ w = w' := by
  have hn0 : Hid (nameL s.data.toList = (decide (1 ≤ s.data.toList.length ∧ s.data.toList.length ≤ 10) && lb (s.data.toList.headD 0) && s.data.toList.all ldb)) := Lib.hid rfl
  have hl : Hid (s.data.toList.length = s.size) := Lib.hid (len_data s)
  unfold maxLen at hs
  by_cases h0 : s.size = 0
  · have h0' := empty_yes s h0
    go_enter Tryz.func79, Tryz.ntmps79
    go_wp2
    go_ret
    exact ⟨ret_bool (by rw [hn0.out, hl.out]; simp [h0]), rfl⟩
  have h0' := empty_no s h0
  by_cases h1 : s.size ≤ 10
  rotate_left
  · go_enter Tryz.func79, Tryz.ntmps79
    go_wp2
    go_ret
    exact ⟨ret_bool (by rw [hn0.out, hl.out]; simp [h0, h1]), rfl⟩
  have hpos : 0 < s.size := by omega
  have hd : Hid (s.data.toList.headD 0 = s[0]) := Lib.hid (head_at s hpos)
  cases h2 : lb s[0]
  · go_enter Tryz.func79, Tryz.ntmps79
    go_wp2_with (go_at_call 95; refine (l01Small_any _ _).mono ?_; rintro e w' ⟨rfl, rfl⟩)
    go_ret
    exact ⟨ret_bool (by rw [hn0.out, hd.out, h2]; simp), rfl⟩
  go_enter Tryz.func79, Tryz.ntmps79
  go_wp2_with (go_at_call 95; refine (l01Small_any _ _).mono ?_; rintro e w' ⟨rfl, rfl⟩)
  go_loop [3] (fun i => ∃ k : Nat, k ≤ s.size ∧ i = .int .i64 k ∧ Hid ((s.data.toList.take k).all ldb = true)) (fun i => s.size - (intOf i).toNat)
  case atStart => exact ⟨0, by omega, rfl, Lib.hid (by simp)⟩
  case round =>
    obtain ⟨k, hk, rfl, hall⟩ := hrel
    by_cases hlt : k < s.size
    · cases h3 : lb s[k]
      · cases h4 : db s[k]
        · go_wp2_with (first
            | (go_at_call 95; refine (l01Small_any _ _).mono ?_; rintro e w' ⟨rfl, rfl⟩)
            | (go_at_call 96; refine (l01Digit_any _ _).mono ?_; rintro e w' ⟨rfl, rfl⟩))
          go_ret
          exact ⟨ret_bool (by rw [hn0.out, all_fail (mem_at s k hlt) (by simp [ldb, h3, h4])]; simp), rfl⟩
        · go_wp2_with (first
            | (go_at_call 95; refine (l01Small_any _ _).mono ?_; rintro e w' ⟨rfl, rfl⟩)
            | (go_at_call 96; refine (l01Digit_any _ _).mono ?_; rintro e w' ⟨rfl, rfl⟩))
          go_round
          case rel => exact ⟨k + 1, by omega, by go_num, Lib.hid (by rw [take_snoc s k hlt]; exact all_snoc hall.out (by simp [ldb, h4]))⟩
          case measure => simp [intOf]; omega
      · go_wp2_with (go_at_call 95; refine (l01Small_any _ _).mono ?_; rintro e w' ⟨rfl, rfl⟩)
        go_round
        case rel => exact ⟨k + 1, by omega, by go_num, Lib.hid (by rw [take_snoc s k hlt]; exact all_snoc hall.out (by simp [ldb, h3]))⟩
        case measure => simp [intOf]; omega
    · have hk' : k = s.size := by omega
      go_wp2
      go_ret
      exact ⟨ret_bool (by rw [hn0.out, hd.out, hl.out, h2]; have := hall.out; rw [hk', take_all] at this; simp [this]; omega), rfl⟩

set_option maxHeartbeats 1000000 in
theorem implIsName_any (s : ByteArray) (w : World) (hs : s.size ≤ maxLen) : Calls Tryz.prog 51 #[.string s] w fun e w' => e = .returned (.bool (nameL s.data.toList)) ∧ w = w' := by
  have hn0 : Hid (nameL s.data.toList = (decide (1 ≤ s.data.toList.length ∧ s.data.toList.length ≤ 10) && lb (s.data.toList.headD 0) && s.data.toList.all ldb)) := Lib.hid rfl
  have hl : Hid (s.data.toList.length = s.size) := Lib.hid (len_data s)
  unfold maxLen at hs
  cases h0 : inB s.size 1 10
  · have hb := inB_no.1 h0
    go_enter Tryz.func51, Tryz.ntmps51
    go_wp2_with (go_at_call 66; refine (withinI_any _ _ _ _).mono ?_; rintro e w' ⟨rfl, rfl⟩)
    go_ret
    exact ⟨ret_bool (by rw [hn0.out, hl.out]; have : ¬ (1 ≤ s.size ∧ s.size ≤ 10) := by omega
                        simp [this]), rfl⟩
  have hb := inB_iff.1 h0
  have hpos : 0 < s.size := by omega
  have hd : Hid (s.data.toList.headD 0 = s[0]) := Lib.hid (head_at s hpos)
  cases h2 : lb s[0]
  · go_enter Tryz.func51, Tryz.ntmps51
    go_wp2_with (first
      | (go_at_call 66; refine (withinI_any _ _ _ _).mono ?_; rintro e w' ⟨rfl, rfl⟩)
      | (go_at_call 67; refine (isLetter_any _ _).mono ?_; rintro e w' ⟨rfl, rfl⟩))
    go_ret
    exact ⟨ret_bool (by rw [hn0.out, hd.out, h2]; simp), rfl⟩
  go_enter Tryz.func51, Tryz.ntmps51
  go_wp2_with (first
      | (go_at_call 66; refine (withinI_any _ _ _ _).mono ?_; rintro e w' ⟨rfl, rfl⟩)
      | (go_at_call 67; refine (isLetter_any _ _).mono ?_; rintro e w' ⟨rfl, rfl⟩))
  go_loop [16] (fun i => ∃ k : Nat, k ≤ s.size ∧ i = .int .i64 k ∧ Hid ((s.data.toList.take k).all ldb = true)) (fun i => s.size - (intOf i).toNat)
  case atStart => exact ⟨0, by omega, rfl, Lib.hid (by simp)⟩
  case round =>
    obtain ⟨k, hk, rfl, hall⟩ := hrel
    by_cases hlt : k < s.size
    · cases h3 : lb s[k]
      · cases h4 : db s[k]
        · go_wp2_with (first
            | (go_at_call 67; refine (isLetter_any _ _).mono ?_; rintro e w' ⟨rfl, rfl⟩)
            | (go_at_call 68; refine (isDigit_any _ _).mono ?_; rintro e w' ⟨rfl, rfl⟩))
          go_ret
          exact ⟨ret_bool (by rw [hn0.out, all_fail (mem_at s k hlt) (by simp [ldb, h3, h4])]; simp), rfl⟩
        · go_wp2_with (first
            | (go_at_call 67; refine (isLetter_any _ _).mono ?_; rintro e w' ⟨rfl, rfl⟩)
            | (go_at_call 68; refine (isDigit_any _ _).mono ?_; rintro e w' ⟨rfl, rfl⟩))
          go_round
          case rel => exact ⟨k + 1, by omega, by go_num, Lib.hid (by rw [take_snoc s k hlt]; exact all_snoc hall.out (by simp [ldb, h4]))⟩
          case measure => simp [intOf]; omega
      · go_wp2_with (go_at_call 67; refine (isLetter_any _ _).mono ?_; rintro e w' ⟨rfl, rfl⟩)
        go_round
        case rel => exact ⟨k + 1, by omega, by go_num, Lib.hid (by rw [take_snoc s k hlt]; exact all_snoc hall.out (by simp [ldb, h3]))⟩
        case measure => simp [intOf]; omega
    · have hk' : k = s.size := by omega
      go_wp2
      go_ret
      exact ⟨ret_bool (by rw [hn0.out, hd.out, hl.out, h2]; have := hall.out; rw [hk', take_all] at this; simp [this]; omega), rfl⟩
end Go.Proofs.YtgfhjcbmilaegaaGreatDoor
namespace Go.Proofs.YtgfhjcbmilaegaaGreatDoor
open Go.ChangeShapes Go.WideShapes Go.ChangeAt Go.RowKit
set_option linter.unusedVariables false
set_option linter.unusedSimpArgs false
/-- the number where the test says yes, else 0 (not reducible: the walk leaves it alone) -/
def pick (b : Bool) (n : Int) : Int := if b = true then n else 0
/-- OK where the test says yes, else the code c -/
def code (b : Bool) (c : Int) : Int := if b = true then 0 else c
theorem pick_t {b : Bool} (h : b = true) (n : Int) : pick b n = n := by unfold pick; rw [if_pos h]
theorem pick_f {b : Bool} (h : b = false) (n : Int) : pick b n = 0 := by unfold pick; rw [h]; rfl
theorem code_t {b : Bool} (h : b = true) (c : Int) : code b c = 0 := by unfold code; rw [if_pos h]
theorem code_f {b : Bool} (h : b = false) (c : Int) : code b c = c := by unfold code; rw [h]; rfl
theorem ret_int2 {a b c d : Int} (h1 : a = c) (h2 : b = d) : Ending.returned (.tuple #[.int .i64 a, .int .i64 b]) = .returned (.tuple #[.int .i64 c, .int .i64 d]) := by rw [h1, h2]
theorem ret_int4 {a b c d a' b' c' d' : Int} (h1 : a = a') (h2 : b = b') (h3 : c = c') (h4 : d = d') : Ending.returned (.tuple #[.int .i64 a, .int .i64 b, .int .i64 c, .int .i64 d]) = .returned (.tuple #[.int .i64 a', .int .i64 b', .int .i64 c', .int .i64 d']) := by rw [h1, h2, h3, h4]
end Go.Proofs.YtgfhjcbmilaegaaGreatDoor
namespace Go.Proofs.YtgfhjcbmilaegaaGreatDoor
open Go.ChangeShapes Go.WideShapes Go.ChangeAt Go.RowKit Go.Deep
set_option linter.unusedVariables false
set_option linter.unusedSimpArgs false
set_option maxRecDepth 1000000
structure Ct where
  id : ByteArray
  days : Int
  cover : Int
  col : List Int
/-- the cells of one, u is its row of numbers -/
def Ct.cells (x : Ct) (u : Value) : List Value := [.string x.id, .int .i64 x.days, .int .i64 x.cover, u]
/-- one that lies in memory -/
def CtAt (w : World) (g o : Nat) (x : Ct) (u : Value) : Prop := (w.cell? ⟨g, o, none⟩ = some (.string x.id) ∧ w.cell? ⟨g, o + 1, none⟩ = some (.int .i64 x.days) ∧ w.cell? ⟨g, o + 2, none⟩ = some (.int .i64 x.cover) ∧ w.cell? ⟨g, o + 3, none⟩ = some u) ∧ IntsAt w u x.col
theorem CtAt.below {w w' : World} {g o : Nat} {x : Ct} {u : Value} (h : CtAt w g o x u) (hg : g < w.heap.size) (hb : Below w.heap.size w w') : CtAt w' g o x u :=
  ⟨⟨(hb.cell (p := ⟨g, _, none⟩) hg).trans h.1.1, (hb.cell (p := ⟨g, _, none⟩) hg).trans h.1.2.1, (hb.cell (p := ⟨g, _, none⟩) hg).trans h.1.2.2.1, (hb.cell (p := ⟨g, _, none⟩) hg).trans h.1.2.2.2⟩, h.2.below hb⟩
theorem ctAt_of {w : World} {g o : Nat} {x : Ct} {u : Value} (h : w.rangeAt g o (x.cells u)) (hi : IntsAt w u x.col) : CtAt w g o x u :=
  ⟨⟨by simpa using h 0 _ rfl, h 1 _ rfl, h 2 _ rfl, h 3 _ rfl⟩, hi⟩
theorem intsShape {w : World} {v : Value} {Z : List Int} (h : IntsAt w v Z) : ∃ a cap, v = .slice a Z.length cap := by obtain ⟨a, cap, h, _⟩ := h; exact ⟨a, cap, h⟩
/-- what is left behind one -/
def ctLeft (s : ByteArray) (L : List Int) (n : Int) : Int := if (s.size : Int) + L.length ≤ n then n - s.size - L.length else -1
theorem ownShape {w : World} {B e size n : Nat} {v : Value} {xs : List Value} (h : w.ownsRow B e size v n xs) : ∃ a cap, v = .slice a n cap := by
  rcases h.2 with ⟨rfl, rfl⟩ | ⟨g, cap, _, rfl, _⟩
  · exact ⟨none, 0, rfl⟩
  · exact ⟨_, cap, rfl⟩
/-- the boxes of a copy -/
theorem toCt_boxes (w : World) (s : ByteArray) (a b : Int) (u : Value) (T T' : TypeId) (cs : Array Value) (hcs : cs.size = 4) :
    let W0 := ((w.alloc (.cells #[.string s, .int .i64 a, .int .i64 b, u] T)).alloc (.cells cs T')).alloc (.cells #[.string s, .int .i64 a, .int .i64 b, .slice none 0 0] T')
    W0.cell? ⟨w.heap.size, 3, none⟩ = some u ∧ W0.there (w.heap.size + 1) 0 4 ∧ W0.there (w.heap.size + 1 + 1) 0 4 ∧ W0.rangeAt (w.heap.size + 1 + 1) 0 [.string s, .int .i64 a, .int .i64 b, .slice none 0 0] ∧ Below w.heap.size w W0 ∧ W0.heap.size = w.heap.size + 3 := by
  intro W0
  have s1 : (w.alloc (.cells #[.string s, .int .i64 a, .int .i64 b, u] T)).heap.size = w.heap.size + 1 := by simp
  have s2 : ((w.alloc (.cells #[.string s, .int .i64 a, .int .i64 b, u] T)).alloc (.cells cs T')).heap.size = w.heap.size + 1 + 1 := by simp
  generalize hW1 : w.alloc (.cells #[.string s, .int .i64 a, .int .i64 b, u] T) = W1 at s1 s2
  generalize hW2 : W1.alloc (.cells cs T') = W2 at s2
  have hb2 : Below W2.heap.size W2 W0 := by show Below _ _ ((( _ : World).alloc _).alloc _ |>.alloc _); rw [hW1, hW2]; exact (Below.refl _ _).alloc (Nat.le_refl _) _
  have hb1 : Below W1.heap.size W1 W2 := by rw [← hW2]; exact (Below.refl _ _).alloc (Nat.le_refl _) _
  have hb0 : Below w.heap.size w W1 := by rw [← hW1]; exact (Below.refl _ _).alloc (Nat.le_refl _) _
  have h1 : W1.heap[w.heap.size]? = some (.cells #[.string s, .int .i64 a, .int .i64 b, u] T (0, 0)) := by rw [← hW1]; exact heap_alloc_new _ _
  have h2 : W2.heap[w.heap.size + 1]? = some (.cells cs T' (0, 0)) := by rw [← hW2, ← s1]; exact heap_alloc_new _ _
  have h3 : W0.heap[w.heap.size + 1 + 1]? = some (.cells #[.string s, .int .i64 a, .int .i64 b, .slice none 0 0] T' (0, 0)) := by
    show ((( _ : World).alloc _).alloc _ |>.alloc _).heap[_]? = _
    rw [hW1, hW2, ← s2]; exact heap_alloc_new _ _
  have t1 : W2.there (w.heap.size + 1) 0 4 := fun j hj => ⟨by rw [Nat.zero_add, cellB h2 j (cs[j]'(by omega)) (Array.getElem?_eq_getElem (by omega))]; rfl, by rw [Nat.zero_add]; exact freeB h2 j⟩
  refine ⟨(bcell hb2 _ _ (by omega)).trans ((bcell hb1 _ _ (by omega)).trans (cellB h1 3 _ rfl)), there_below t1 (by omega) hb2, ?_, ?_, (hb0.trans (hb1.mono hb0.size)).trans (hb2.mono (by omega)), ?_⟩
  · intro j hj
    rw [Nat.zero_add]
    refine ⟨?_, freeB h3 j⟩
    rw [cellB h3 j ((#[.string s, .int .i64 a, .int .i64 b, .slice none 0 0] : Array Value)[j]'(by simpa using hj)) (Array.getElem?_eq_getElem _)]; rfl
  · intro j v hv
    rw [Nat.zero_add]
    exact cellB h3 j v (by simpa using hv)
  · show ((( _ : World).alloc _).alloc _ |>.alloc _).heap.size = _
    rw [hW1, hW2]; simp [s2]
theorem grownSet (w : World) (a : Addr) (u : Value) : w.grownBy (w.setCell a u) (some a.block) :=
  ⟨rfl, rfl, rfl, by simp, fun k _ hk => Below.heap_setCell _ _ _ k (fun e => hk (by rw [e]))⟩
theorem grownSets (b : Nat) : ∀ (vs : List Value) (o : Nat) (w : World), w.grownBy (w.setCells b o vs) (some b)
  | [], _, w => World.grownBy.refl _ _
  | v :: r, o, w => gtrans (grownSet w ⟨b, o, none⟩ v) (grownSets b r (o + 1) _)
theorem sizeCt : (Tryz.prog.info? 36).map (·.size) = some 4 := by kernel_rfl
theorem oneCt (s : ByteArray) (a b : Int) (p : Option Addr) (n c : Nat) : (#[Value.string s, .int .i64 a, .int .i64 b, .slice p n c] : Array Value).all (·.oneCell') = true := by simp [Value.oneCell']
theorem toCt_after {w W0 w2 : World} {s : ByteArray} {a b : Int} {L : List Int} {a2 : Option Addr} {c2 : Nat}
    (hF : (W0.there (w.heap.size + 1) 0 4 ∧ W0.there (w.heap.size + 1 + 1) 0 4) ∧ W0.rangeAt (w.heap.size + 1 + 1) 0 [.string s, .int .i64 a, .int .i64 b, .slice none 0 0] ∧ Below w.heap.size w W0 ∧ W0.heap.size = w.heap.size + 3)
    (hb2 : Below W0.heap.size W0 w2) (ho : w2.ownsRow W0.heap.size 2 1 (.slice a2 L.length c2) L.length (L.map encI)) :
    w2.cell? ⟨w.heap.size + 1 + 1, 3, none⟩ = some (.slice none 0 0) ∧ w2.frozen? ⟨w.heap.size + 1 + 1, 3, none⟩ = false ∧
    (w2.setCell ⟨w.heap.size + 1 + 1, 3, none⟩ (.slice a2 L.length c2)).rangeAt (w.heap.size + 1 + 1) 0 [.string s, .int .i64 a, .int .i64 b, .slice a2 L.length c2] ∧
    (w2.setCell ⟨w.heap.size + 1 + 1, 3, none⟩ (.slice a2 L.length c2)).there (w.heap.size + 1) 0 4 ∧
    (w2.setCell ⟨w.heap.size + 1 + 1, 3, none⟩ (.slice a2 L.length c2)).ownsRow w.heap.size 2 1 (.slice a2 L.length c2) L.length (L.map encI) ∧
    (.slice a2 L.length c2 : Value).ownBlock ≠ some (w.heap.size + 1) ∧
    Below w.heap.size w (w2.setCell ⟨w.heap.size + 1 + 1, 3, none⟩ (.slice a2 L.length c2)) := by
  obtain ⟨⟨t1, t2⟩, hr, hB, hsz⟩ := hF
  have hr2 := range_below hr (by omega) hb2
  have t12 := there_below t1 (by omega) hb2
  have t22 := there_below t2 (by omega) hb2
  have t23 := t22 3 (by omega)
  rw [Nat.zero_add] at t23
  have hsame : (w2.setCell ⟨w.heap.size + 1 + 1, 3, none⟩ (.slice a2 L.length c2)).cell? ⟨w.heap.size + 1 + 1, 3, none⟩ = some (.slice a2 L.length c2) := by
    have := World.rangeAt_setCells_same w2 (w.heap.size + 1 + 1) 3 [.slice a2 L.length c2] (there_part t22 3 1 (by omega)) 0 _ rfl
    simpa [World.setCells] using this
  have hoth : ∀ j v, j < 3 → w2.cell? ⟨w.heap.size + 1 + 1, j, none⟩ = some v → (w2.setCell ⟨w.heap.size + 1 + 1, 3, none⟩ (.slice a2 L.length c2)).cell? ⟨w.heap.size + 1 + 1, j, none⟩ = some v := fun j v hj hv => by
    have h1 : w2.rangeAt (w.heap.size + 1 + 1) j [v] := fun i x hx => by
      match i, hx with
      | 0, hx => simpa using (by simpa using hx : v = x) ▸ hv
    have := World.rangeAt_setCells_apart h1 (w.heap.size + 1 + 1) 3 [.slice a2 L.length c2] (Or.inr (Or.inl (by simp; omega))) 0 v rfl
    simpa [World.setCells] using this
  have k := fun j v h => hr2 j v h
  refine ⟨by simpa using hr2 3 _ rfl, t23.2, ?_, (by have := World.there_setCells t12 (w.heap.size + 1 + 1) 3 [.slice a2 L.length c2]; simpa [World.setCells] using this), ?_, (fun hh => by have := (ho.lt _ hh).1; omega), (hB.trans (hb2.mono (by omega))).setCell (p := ⟨_, _, _⟩) (by show w.heap.size ≤ w.heap.size + 1 + 1; omega) _⟩
  · intro j v hv
    rw [Nat.zero_add]
    match j, hv with
    | 0, hv => exact hoth 0 v (by omega) (by have := hr2 0 v hv; simpa using this)
    | 1, hv => exact hoth 1 v (by omega) (by have := hr2 1 v hv; simpa using this)
    | 2, hv => exact hoth 2 v (by omega) (by have := hr2 2 v hv; simpa using this)
    | 3, hv => rw [hsame]; simpa using hv
  · refine (own_low ho (by omega)).kept (grownSet w2 ⟨w.heap.size + 1 + 1, 3, none⟩ _) ?_
    right
    intro hh
    have := (ho.lt _ hh).1
    simp at this
    omega
theorem toCt_end {w w3 w5 : World} {s : ByteArray} {a b : Int} {L : List Int} {a2 : Option Addr} {c2 : Nat} (th : w3.there (w.heap.size + 1) 0 4) (ow : w3.ownsRow w.heap.size 2 1 (.slice a2 L.length c2) L.length (L.map encI)) (hb : Below w.heap.size w w3)
    (hne : (.slice a2 L.length c2 : Value).ownBlock ≠ some (w.heap.size + 1)) (hW : w3.setCells (w.heap.size + 1) 0 [.string s, .int .i64 a, .int .i64 b, .slice a2 L.length c2] = w5) :
    (w5.cell? ⟨w.heap.size + 1, 0, none⟩ = some (.string s) ∧ w5.cell? ⟨w.heap.size + 1, 1, none⟩ = some (.int .i64 a) ∧ w5.cell? ⟨w.heap.size + 1, 2, none⟩ = some (.int .i64 b) ∧ w5.cell? ⟨w.heap.size + 1, 3, none⟩ = some (.slice a2 L.length c2)) ∧ w5.ownsRow w.heap.size 2 1 (.slice a2 L.length c2) L.length (L.map encI) ∧ Below w.heap.size w w5 := by
  subst hW
  have hr := World.rangeAt_setCells_same w3 (w.heap.size + 1) 0 [.string s, .int .i64 a, .int .i64 b, .slice a2 L.length c2] th
  exact ⟨⟨by simpa using hr 0 _ rfl, by simpa using hr 1 _ rfl, by simpa using hr 2 _ rfl, by simpa using hr 3 _ rfl⟩, ow.kept (grownSets _ _ _ _) (Or.inr hne), below_sets (by omega) _ _ _ hb⟩
/-- a coat is valid -/
def ctB (x : Ct) : Bool := nameL x.id.data.toList && inB x.days 0 365 && inB x.cover 0 1000 && colB x.col
theorem ctB_mk (s : ByteArray) (a b : Int) (L : List Int) : ctB ⟨s, a, b, L⟩ = (nameL s.data.toList && inB a 0 365 && inB b 0 1000 && colB L) := rfl
theorem ct_bd {s : ByteArray} {a b : Int} {L : List Int} (h : ctB ⟨s, a, b, L⟩ = true) : (0 ≤ a ∧ a ≤ 365) ∧ (0 ≤ b ∧ b ≤ 1000) ∧ colB L = true := by
  rw [ctB_mk] at h
  simp only [Bool.and_eq_true, inB_iff] at h
  exact ⟨h.1.1.2, h.1.2, h.2⟩
theorem one_boxC (w : World) (cs : Array Value) (T : TypeId) : (∀ i v, cs[i]? = some v → (w.alloc (.cells cs T)).cell? ⟨w.heap.size, i, none⟩ = some v) ∧ Below w.heap.size w (w.alloc (.cells cs T)) ∧ w.heap.size < (w.alloc (.cells cs T)).heap.size :=
  ⟨fun i v h => cellB (heap_alloc_new _ _) i v h, (Below.refl _ _).alloc (Nat.le_refl _) _, by simp⟩
set_option maxHeartbeats 1600000 in
theorem isValidCt_any (s : ByteArray) (a b : Int) (u : Value) (L : List Int) (hs : s.size ≤ maxLen) (hL : L.length ≤ maxLen) (w : World) (hv : IntsAt w u L) : Calls Tryz.prog 29 #[.agg #[.string s, .int .i64 a, .int .i64 b, u]] w fun e w' => e = .returned (.bool (ctB ⟨s, a, b, L⟩)) ∧ Below w.heap.size w w' := by
  have hx : Hid (ctB ⟨s, a, b, L⟩ = (nameL s.data.toList && inB a 0 365 && inB b 0 1000 && colB L)) := Lib.hid rfl
  have cC := Lib.hid (fun (W : World) (hb : Below w.heap.size w W) => isColour_any u L W hL (hv.below hb))
  have cN := fun W => implIsName_any s W hs
  have cA := fun W => within64_any a 0 365 W
  have cB := fun W => within64_any b 0 1000 W
  obtain ⟨q1, hB0, hsz⟩ := one_boxC w #[.string s, .int .i64 a, .int .i64 b, u] 36
  have c0 := q1 0 _ rfl
  have c1 := q1 1 _ rfl
  have c2 := q1 2 _ rfl
  have c3 := q1 3 _ rfl
  have cD := cC.out _ hB0
  obtain ⟨W0, hW0⟩ : ∃ W0, W0 = w.alloc (.cells #[.string s, .int .i64 a, .int .i64 b, u] 36) := ⟨_, rfl⟩
  rw [← hW0] at c0 c1 c2 c3 cD hB0 hsz
  have hB' := Lib.hid hB0
  clear q1 cC hB0 hv hL
  obtain ⟨q, hq⟩ : ∃ q, q = colB L := ⟨_, rfl⟩
  rw [← hq] at cD hx
  clear hq
  generalize nameL s.data.toList = r1 at cN hx
  generalize inB a 0 365 = r2 at cA hx
  generalize inB b 0 1000 = r3 at cB hx
  cases r1
  rotate_left
  cases r2
  rotate_left
  cases r3
  rotate_left
  all_goals
    have cN' := Lib.hid cN
    have cA' := Lib.hid cA
    have cB' := Lib.hid cB
    have cD' := Lib.hid cD
    clear cN cA cB cD
    go_enter Tryz.func29, Tryz.ntmps29
    go_upto_region 1 with fail
    rw [← hW0]
    clear hW0
    go_wp2_with (first
      | (go_at_call 51; (with_reducible refine (cN'.out _).mono ?_); rintro e w' ⟨rfl, rfl⟩)
      | (go_at_call 40; (with_reducible refine (cA'.out _).mono ?_); rintro e w' ⟨rfl, rfl⟩)
      | (go_at_call 40; (with_reducible refine (cB'.out _).mono ?_); rintro e w' ⟨rfl, rfl⟩)
      | (go_at_call 24; (with_reducible refine cD'.out.mono ?_); rintro e w' ⟨rfl, b2⟩))
    go_ret
    first
      | exact ⟨ret_bool (by rw [hx.out]; simp), hB'.out.trans (b2.mono hB'.out.size)⟩
      | exact ⟨ret_bool (by rw [hx.out]; rfl), hB'.out⟩
set_option maxHeartbeats 1600000 in
theorem l13One_any (x : Ct) (u : Value) (g o : Nat) (hs : x.id.size ≤ maxLen) (hL : x.col.length ≤ maxLen) (w : World) (hat : CtAt w g o x u) : Calls Tryz.prog 61 #[.pointer (some ⟨g, o, none⟩)] w fun e w' => e = .returned (.bool (ctB x)) ∧ w = w' := by
  obtain ⟨s, a, b, L⟩ := x
  have hx : Hid (ctB ⟨s, a, b, L⟩ = (nameL s.data.toList && inB a 0 365 && inB b 0 1000 && colB L)) := Lib.hid rfl
  obtain ⟨⟨c0, c1, c2, c3⟩, hv⟩ := hat
  simp only at hs hL c0 c1 c2 c3 hv
  have cC := l13Colour_any u L w hL hv
  have cN := fun W => l01Name_any s W hs
  have cA := fun W => l00In_any a 0 365 W
  have cB := fun W => l00In_any b 0 1000 W
  obtain ⟨q, hq⟩ : ∃ q, q = colB L := ⟨_, rfl⟩
  rw [← hq] at cC hx
  clear hq hv hL
  generalize nameL s.data.toList = r1 at cN hx
  generalize inB a 0 365 = r2 at cA hx
  generalize inB b 0 1000 = r3 at cB hx
  cases r1
  rotate_left
  cases r2
  rotate_left
  cases r3
  rotate_left
  all_goals
    have cN' := Lib.hid cN
    have cA' := Lib.hid cA
    have cB' := Lib.hid cB
    have cC' := Lib.hid cC
    clear cN cA cB cC
    go_enter Tryz.func61, Tryz.ntmps61
    go_wp2_with (first
      | (go_at_call 79; (with_reducible refine (cN'.out _).mono ?_); rintro e w' ⟨rfl, rfl⟩)
      | (go_at_call 59; (with_reducible refine (cA'.out _).mono ?_); rintro e w' ⟨rfl, rfl⟩)
      | (go_at_call 59; (with_reducible refine (cB'.out _).mono ?_); rintro e w' ⟨rfl, rfl⟩)
      | (go_at_call 41; (with_reducible refine cC'.out.mono ?_); rintro e w' ⟨rfl, rfl⟩))
    go_ret
    first
      | exact ⟨ret_bool (by rw [hx.out]; simp), rfl⟩
      | exact ⟨ret_bool (by rw [hx.out]; rfl), rfl⟩
/-- a value that is such a struct -/
def CtV (w : World) (v : Value) : Prop := ∃ (s : ByteArray) (a b : Int) (u : Value) (L : List Int), v = .agg #[.string s, .int .i64 a, .int .i64 b, u] ∧ s.size ≤ maxLen ∧ L.length ≤ maxLen ∧ IntsAt w u L
theorem intsOf {w : World} {x : Addr} {len cap : Nat} {zs : List Int} (hl : len ≤ cap) (hz : len ≤ zs.length) (hcell : ∀ i, i < zs.length → w.cell? (x.add i) = some (.int .i64 (zs.getD i 0))) (hwz : ∀ n ∈ zs, (Lit.int .i64 n).wf = true) : IntsAt w (.slice (some x) len cap) (zs.take len) := by
  refine ⟨some x, cap, by rw [List.length_take]; congr 1; omega, by rw [List.length_take]; omega, fun n hn => ?_, ?_⟩
  · have := bounds_i64 (hwz n (List.mem_of_mem_take hn)); exact this
  · by_cases h0 : len = 0
    · left; subst h0; simp
    · right
      obtain ⟨b, off, spot⟩ := x
      have hc := hcell 0 (by omega)
      have hspot : spot = none := by simpa [Addr.add] using World.cell?_spot hc
      subst hspot
      refine ⟨b, off, rfl, World.block_lt_of_cell? w _ (by have := hc; simpa [Addr.add] using this), fun i hi => ?_⟩
      have hi2 : i < zs.length := by rw [List.length_take] at hi; omega
      have := hcell i hi2
      rw [add_plain] at this
      rw [this]
      simp [List.getD, List.getElem?_eq_getElem hi2]
end Go.Proofs.YtgfhjcbmilaegaaGreatDoor
namespace Go.Proofs.YtgfhjcbmilaegaaGreatDoor
set_option linter.unusedVariables false in
def digsN (n : Nat) : List UInt8 := if h : n = 0 then [] else digsN (n / 10) ++ [UInt8.ofNat (48 + n % 10)]
theorem digsN_pos (n : Nat) (h : 0 < n) : digsN n = digsN (n / 10) ++ [UInt8.ofNat (48 + n % 10)] := by
  rw [digsN, dif_neg (by omega)]
theorem digsN_zero : digsN 0 = [] := by rw [digsN, dif_pos rfl]
theorem digsN_len : ∀ (j n : Nat), n < 10 ^ j → (digsN n).length ≤ j
  | 0, n, h => by
    have : n = 0 := by simpa using h
    subst this; rw [digsN_zero]; exact Nat.le_refl 0
  | j + 1, n, h => by
    by_cases h0 : n = 0
    · subst h0; rw [digsN_zero]; exact Nat.zero_le _
    · rw [digsN_pos n (by omega)]
      have := digsN_len j (n / 10) (by rw [Nat.pow_succ] at h; omega)
      simp; omega
theorem digsN_ne (n : Nat) (h : 0 < n) : 0 < (digsN n).length := by rw [digsN_pos n h]; simp
theorem decDigits_digs : ∀ n : Nat, 0 < n → Lib.decDigits n = digsN n := by
  intro n
  induction n using Nat.strongRecOn with
  | _ n ih =>
    intro h
    rw [Lib.decDigits, digsN_pos n h]
    split
    · rename_i h10
      have e1 : n / 10 = 0 := by omega
      have e2 : n % 10 = n := by omega
      rw [e1, e2, digsN_zero]; rfl
    · rename_i h10
      rw [ih (n / 10) (by omega) (by omega)]
theorem itoa_zero : Lib.itoa 0 = [48] := by
  unfold Lib.itoa; rw [if_neg (by omega)]; exact Lib.decDigits_one (by omega)
theorem itoa_pos (n : Nat) (h : 0 < n) : Lib.itoa (n : Int) = digsN n := by
  unfold Lib.itoa; rw [if_neg (by omega), Int.toNat_natCast, decDigits_digs n h]
theorem itoa_negp (n : Nat) (h : 0 < n) : Lib.itoa (-(n : Int)) = 45 :: digsN n := by
  unfold Lib.itoa; rw [if_pos (by omega), Int.natAbs_neg, Int.natAbs_natCast, decDigits_digs n h]
theorem dig_step (N u : Nat) (D : List UInt8) (hu : 0 < u) (h : digsN N = digsN u ++ D.reverse) : digsN N = digsN (u / 10) ++ (D ++ [UInt8.ofNat (48 + u % 10)]).reverse := by
  rw [h, digsN_pos u hu]; simp
theorem dig_size (N u : Nat) (D : List UInt8) (hn : N ≤ 9223372036854775808) (h : digsN N = digsN u ++ D.reverse) : D.length ≤ 19 := by
  have h1 := digsN_len 19 N (by omega)
  rw [h, List.length_append, List.length_reverse] at h1
  omega
theorem rev_step (D : List UInt8) (t : Nat) (h : t < D.length) : (D.drop (t + 1)).reverse ++ [D[t]] = (D.drop t).reverse := by
  rw [List.drop_eq_getElem_cons h, List.reverse_cons]
end Go.Proofs.YtgfhjcbmilaegaaGreatDoor
namespace Go.Proofs.YtgfhjcbmilaegaaGreatDoor
open Go.ChangeShapes Go.WideShapes Go.ChangeAt Go.RowKit
set_option linter.unusedVariables false
set_option linter.unusedSimpArgs false

theorem digs_size (n k : Nat) (S : ByteArray) (hn : n ≤ 9223372036854775807) (h : digsN n = digsN k ++ S.data.toList) : S.size ≤ 19 := by
  have h1 := digsN_len 19 n (by omega)
  rw [h, List.length_append, len_data] at h1
  omega

def markB (k : Nat) : ByteArray := ⟨(109 :: digsN k).toArray⟩
/-- a row's cells: the first j are marks, k0 and on -/
def markRow (xs : List Value) (k0 j : Nat) : List Value := (List.range j).map (fun i => Value.string (markB (k0 + i))) ++ xs.drop j
theorem markRow_zero (xs : List Value) (k0 : Nat) : markRow xs k0 0 = xs := by simp [markRow]
theorem markRow_set (xs : List Value) (k0 j : Nat) (h : j < xs.length) : (markRow xs k0 j).set j (.string (markB (k0 + j))) = markRow xs k0 (j + 1) := by
  unfold markRow
  have e : (xs.drop j).set 0 (.string (markB (k0 + j))) = .string (markB (k0 + j)) :: xs.drop (j + 1) := by rw [List.drop_eq_getElem_cons h]; rfl
  rw [List.set_append_right _ _ (by simp)]
  simp [List.range_succ, e]
theorem markRow_len (xs : List Value) (k0 j : Nat) (h : j ≤ xs.length) : (markRow xs k0 j).length = xs.length := by simp [markRow]; omega
theorem markRow_all (xs : List Value) (k0 : Nat) : markRow xs k0 xs.length = (List.range xs.length).map (fun i => Value.string (markB (k0 + i))) := by simp [markRow]

end Go.Proofs.YtgfhjcbmilaegaaGreatDoor
