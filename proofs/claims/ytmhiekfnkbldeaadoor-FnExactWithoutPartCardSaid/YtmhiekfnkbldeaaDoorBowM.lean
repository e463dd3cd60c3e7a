/-
  Bows: a part by its Id, and how far it is moved, on both sides.
-/
import Derived.Test.YtmhiekfnkbldeaaDoorBowE
import Derived.Laws.EntriesVeiled
import Derived.Shelf.RegionOpenPlain
namespace Go.Proofs.YtmhiekfnkbldeaaDoor
open Go.ChangeShapes Go.WideShapes Go.ChangeAt Go.RowKit Go.Deep
set_option linter.unusedVariables false
set_option linter.unusedSimpArgs false
set_option maxRecDepth 1000000
theorem bytes_list (s : ByteArray) : s.toList = s.data.toList := by
  obtain ⟨a⟩ := s
  obtain ⟨l⟩ := a
  exact ByteArray.toList_mk l
theorem bytes_eq {s u : ByteArray} (h : ¬ s = u) : ¬ s.toList = u.toList := fun e => h (by
  rw [bytes_list, bytes_list] at e
  obtain ⟨⟨l⟩⟩ := s
  obtain ⟨⟨m⟩⟩ := u
  simp only at e
  rw [e])
theorem bytes_ne {s u : ByteArray} (h : ¬ s = u) : (s.toList == u.toList) = false := by rw [beq_eq_false_iff_ne]; exact bytes_eq h
/-- the first place below n that says yes, n if there is none -/
def fdN (p : Nat → Bool) (n : Nat) : Nat := ((List.range n).find? p).getD n
theorem fdN_at {p : Nat → Bool} {n k : Nat} (hk : k < n) (hno : ∀ j, j < k → p j = false) (hy : p k = true) : fdN p n = k := by
  unfold fdN
  have : (List.range n).find? p = some k := by
    rw [List.find?_range_eq_some]; exact ⟨hy, List.mem_range.2 hk, fun j hj => by rw [hno j hj]; rfl⟩
  rw [this]; rfl
theorem fdN_none {p : Nat → Bool} {n : Nat} (hno : ∀ j, j < n → p j = false) : fdN p n = n := by
  unfold fdN
  have : (List.range n).find? p = none := by
    rw [List.find?_range_eq_none]; intro j hj; rw [hno j hj]; rfl
  rw [this]; rfl
/-- part number i has the Id -/
def idP (Z : List Prt) (u : ByteArray) (i : Nat) : Bool := decide ((Z.getD i prt0).id = u)
theorem idP_at {Z : List Prt} {u : ByteArray} {k : Nat} (hk : k < Z.length) : idP Z u k = decide (Z[k].id = u) := by unfold idP; rw [prt_getD_at' hk]
/-- the place of a part, as a number: -1 if there is none -/
def fdI (Z : List Prt) (u : ByteArray) : Int := if fdN (idP Z u) Z.length < Z.length then (fdN (idP Z u) Z.length : Int) else -1
def gmV (Z : List Prt) (m q bal : Int) (k : Nat) : Int := msV m q bal + (Z.getD k prt0).mas * (Z.getD k prt0).plc
def mvV (Z : List Prt) (u : ByteArray) (m q bal : Int) : Int := if fdN (idP Z u) Z.length < Z.length then (if ltV (Z.getD (fdN (idP Z u) Z.length) prt0).mas (gmV Z m q bal (fdN (idP Z u) Z.length)) ≤ 8000 then ltV (Z.getD (fdN (idP Z u) Z.length) prt0).mas (gmV Z m q bal (fdN (idP Z u) Z.length)) else 0) else 0
def mvC (Z : List Prt) (u : ByteArray) (m q bal : Int) : Int := if fdN (idP Z u) Z.length < Z.length then (if ltV (Z.getD (fdN (idP Z u) Z.length) prt0).mas (gmV Z m q bal (fdN (idP Z u) Z.length)) ≤ 8000 then 0 else 6) else 3
set_option maxHeartbeats 1600000 in
theorem l11Find_any (v : Value) (Z : List Prt) (u : ByteArray) (w : World) (hn : Z.length ≤ 1048576) (hv : PrtsAt w v Z) : Calls Tryd.prog 30 #[v, .string u] w fun e w' => e = .returned (.int .i64 (fdI Z u)) ∧ DrewOf w w' := by
  obtain ⟨p9, cap, rfl, hcap, hids, hread⟩ := hv
  have hread' := Lib.hid hread
  clear hread hids
  go_enter Tryd.func30, Tryd.ntmps30
  go_wp2
  go_loopw [5] (fun i wr => ∃ k : Nat, k ≤ Z.length ∧ i = .int .i64 k ∧ Hid (∀ j, j < k → idP Z u j = false) ∧ DrewOf w wr) (fun i _ => Z.length - (intOf i).toNat)
  case atStart => exact ⟨0, by omega, rfl, Lib.hid (fun j hj => by omega), DrewOf.refl _⟩
  case round =>
    obtain ⟨k, hk, rfl, hno, hd⟩ := hrel
    by_cases hlt : k < Z.length
    · rcases hread'.out with h | ⟨g, o, rfl, hg, hc⟩
      · subst h; simp at hlt
      have hltI : (k : Int) < (Z.length : Int) := by omega
      have c0 := (prtAt_of (hd.range (hc k hlt))).1
      have hst := Lib.hid (idP_at (u := u) hlt)
      obtain ⟨x, hx⟩ : ∃ x, x = Z[k].id := ⟨_, rfl⟩
      rw [← hx] at c0 hst
      clear hx hc
      by_cases hxu : x = u
      · have hf : Hid (fdI Z u = (k : Int)) := Lib.hid (by unfold fdI; rw [fdN_at hlt hno.out (by rw [hst.out]; exact decide_eq_true hxu), if_pos hlt])
        subst hxu
        go_wp2
        go_ret
        exact ⟨ret_int hf.out.symm, hd⟩
      · have hno2 : Hid (∀ j, j < k + 1 → idP Z u j = false) := Lib.hid (fun j hj => by
          rcases Nat.lt_or_ge j k with h | h
          · exact hno.out j h
          · rw [show j = k by omega, hst.out]; exact decide_eq_false hxu)
        have hbe := bytes_ne hxu
        go_wp2
        go_roundw
        case rel => exact ⟨k + 1, by omega, by go_num, hno2, hd⟩
        case measure => simp [intOf]; omega
    · obtain rfl : k = Z.length := by omega
      have hf : Hid (fdI Z u = -1) := Lib.hid (by unfold fdI; rw [fdN_none hno.out, if_neg (Nat.lt_irrefl _)])
      go_wp2
      go_ret
      exact ⟨ret_int hf.out.symm, hd⟩
theorem io1_any (s : ByteArray) (a : Int) (b : Int) (u : ByteArray) (bx : Nat) (w : World) (hbx : bx < w.heap.size) (hx : w.cell? ⟨bx, 0, none⟩ = some (.string u)) : Calls Tryd.prog 51 #[.agg #[.string s, .int .i64 a, .int .i64 b], .pointer (some ⟨bx, 0, none⟩)] w fun e w' => e = .returned (.bool (decide (s = u))) ∧ Below w.heap.size w w' := by
  have hB0 : Below w.heap.size w (w.alloc (.cells #[.string s, .int .i64 a, .int .i64 b] 43)) := (Below.refl _ _).alloc (Nat.le_refl _) _
  have hx1 := (hB0.cell (p := ⟨bx, 0, none⟩) hbx).trans hx
  have k0 := (prt_box s a b w).1
  simp only at k0
  by_cases hsu : s = u
  · subst hsu
    go_enter Tryd.func51, Tryd.ntmps51
    go_wp2
    go_ret
    exact ⟨ret_bool (by simp), hB0⟩
  · have hbe := bytes_ne hsu
    have hbd : decide (s = u) = false := decide_eq_false hsu
    rw [hbd]
    clear hsu hbd
    go_enter Tryd.func51, Tryd.ntmps51
    go_wp2
    go_ret
    exact ⟨rfl, hB0⟩
set_option maxHeartbeats 1600000 in
theorem indexPrt_any (v : Value) (Z : List Prt) (u : ByteArray) (bx : Nat) (w : World) (hn : Z.length ≤ 1048576) (hbx : bx < w.heap.size) (hx : w.cell? ⟨bx, 0, none⟩ = some (.string u)) (hv : PrtsAt w v Z) :
    Calls Tryd.prog 50 #[v, .func (Fn.func 51) #[] #[.pointer (some ⟨bx, 0, none⟩)]] w fun e w' => e = .returned (.int .i64 (fdI Z u)) ∧ Below w.heap.size w w' := by
  obtain ⟨a0, cap, rfl, hcap, hids, hread⟩ := hv
  have hread' := Lib.hid hread
  clear hread hids
  go_enter Tryd.func50, Tryd.ntmps50
  go_wp2
  go_loopw [8] (fun i wr => ∃ k : Nat, k ≤ Z.length ∧ i = .int .i64 k ∧ Hid (∀ j, j < k → idP Z u j = false) ∧ Hid (Below w.heap.size w wr)) (fun i _ => Z.length - (intOf i).toNat)
  case atStart => exact ⟨0, by omega, rfl, Lib.hid (fun j hj => by omega), Lib.hid (Below.refl _ _)⟩
  case round =>
    obtain ⟨k, hk, rfl, hno, hbel⟩ := hrel
    by_cases hlt : k < Z.length
    · rcases hread'.out with h | ⟨g, o, rfl, hg, hc⟩
      · subst h; simp at hlt
      have hltI : (k : Int) < (Z.length : Int) := by omega
      have hr0 := range_below (hc k hlt) hg hbel.out
      have hst := Lib.hid (idP_at (u := u) hlt)
      obtain ⟨x, hxx⟩ : ∃ x, x = Z[k] := ⟨_, rfl⟩
      rw [← hxx] at hr0 hst
      obtain ⟨s, a, b⟩ := x
      have hr1 : wr.rangeAt g (o + k * 3) [.string s, .int .i64 a, .int .i64 b] := hr0
      have cT0 := io1_any s a b u bx wr (Nat.lt_of_lt_of_le hbx hbel.out.size) ((hbel.out.cell (p := ⟨bx, 0, none⟩) hbx).trans hx)
      clear hr0 hxx hc
      by_cases hsu : s = u
      · rw [decide_eq_true hsu] at cT0
        have cT := Lib.hid cT0
        have hf : Hid (fdI Z u = (k : Int)) := Lib.hid (by unfold fdI; rw [fdN_at hlt hno.out (by rw [hst.out]; exact decide_eq_true hsu), if_pos hlt])
        clear cT0 hsu
        go_wp2_with (first
          | (refine wpList_load_mid rfl _ _ rfl g (o + k * 3) rfl _ _ hr1 Tryd.underlying43 rfl rfl ?_)
          | (go_at_call 51; (with_reducible refine cT.out.mono ?_); rintro e w2 ⟨rfl, b2⟩))
        go_ret
        exact ⟨ret_int hf.out.symm, below2 hbel.out b2⟩
      · rw [decide_eq_false hsu] at cT0
        have cT := Lib.hid cT0
        have hno2 : Hid (∀ j, j < k + 1 → idP Z u j = false) := Lib.hid (fun j hj => by
          rcases Nat.lt_or_ge j k with h | h
          · exact hno.out j h
          · rw [show j = k by omega, hst.out]; exact decide_eq_false hsu)
        clear cT0
        go_wp2_with (first
          | (refine wpList_load_mid rfl _ _ rfl g (o + k * 3) rfl _ _ hr1 Tryd.underlying43 rfl rfl ?_)
          | (go_at_call 51; (with_reducible refine cT.out.mono ?_); rintro e w2 ⟨rfl, b2⟩))
        go_roundw
        case rel => exact ⟨k + 1, by omega, by go_num, hno2, Lib.hid (below2 hbel.out b2)⟩
        case measure => simp [intOf]; omega
    · obtain rfl : k = Z.length := by omega
      have hf : Hid (fdI Z u = -1) := Lib.hid (by unfold fdI; rw [fdN_none hno.out, if_neg (Nat.lt_irrefl _)])
      go_wp2
      go_ret
      exact ⟨ret_int hf.out.symm, hbel.out⟩
set_option maxHeartbeats 1600000 in
theorem indexOf_yes (m q : Int) (pa : Option Addr) (cap : Nat) (Z : List Prt) (u : ByteArray) (w : World) (hn : Z.length ≤ 1048576) (hv : PrtsAt w (.slice pa Z.length cap) Z) (hf : fdN (idP Z u) Z.length < Z.length) : Calls Tryd.prog 42 #[.agg #[.int .i64 m, .int .i64 q, .slice pa Z.length cap], .string u] w fun e w' => e = .returned (.tuple #[.int .i64 ((fdN (idP Z u) Z.length : Nat) : Int), .nilIface]) ∧ Below w.heap.size w w' := by
  have hB0 : Below w.heap.size w ((w.alloc (.cells #[.int .i64 m, .int .i64 q, .slice pa Z.length cap] 52)).alloc (.cells #[.string u] 9)) := ((Below.refl _ _).alloc (Nat.le_refl _) _).alloc (by simp) _
  have hc2 : ((w.alloc (.cells #[.int .i64 m, .int .i64 q, .slice pa Z.length cap] 52)).alloc (.cells #[.string u] 9)).cell? ⟨w.heap.size, 2, none⟩ = some (.slice pa Z.length cap) := (((Below.refl _ _).alloc (Nat.le_refl _) _ : Below (w.alloc (.cells #[.int .i64 m, .int .i64 q, .slice pa Z.length cap] 52)).heap.size (w.alloc (.cells #[.int .i64 m, .int .i64 q, .slice pa Z.length cap] 52)) ((w.alloc (.cells #[.int .i64 m, .int .i64 q, .slice pa Z.length cap] 52)).alloc (.cells #[.string u] 9))).cell (p := ⟨w.heap.size, 2, none⟩) (by simp)).trans (bow_cells m q (.slice pa Z.length cap) w).2.2
  have hu2 : ((w.alloc (.cells #[.int .i64 m, .int .i64 q, .slice pa Z.length cap] 52)).alloc (.cells #[.string u] 9)).cell? ⟨w.heap.size + 1, 0, none⟩ = some (.string u) := cellB (by rw [show w.heap.size + 1 = (w.alloc (.cells #[.int .i64 m, .int .i64 q, .slice pa Z.length cap] 52)).heap.size by simp]; exact heap_alloc_new _ _) 0 _ rfl
  have cI0 := indexPrt_any (.slice pa Z.length cap) Z u (w.heap.size + 1) ((w.alloc (.cells #[.int .i64 m, .int .i64 q, .slice pa Z.length cap] 52)).alloc (.cells #[.string u] 9)) hn (by simp) hu2 (hv.below hB0)
  rw [show fdI Z u = ((fdN (idP Z u) Z.length : Nat) : Int) from if_pos hf] at cI0
  have cI := Lib.hid cI0
  obtain ⟨k, hk⟩ : ∃ k, k = fdN (idP Z u) Z.length := ⟨_, rfl⟩
  rw [← hk] at cI ⊢
  clear hk hf
  clear cI0 hv
  go_enter Tryd.func42, Tryd.ntmps42
  go_wp2_with fail
  generalize ((w.alloc (.cells #[.int .i64 m, .int .i64 q, .slice pa Z.length cap] 52)).alloc (.cells #[.string u] 9)) = W0 at hB0 hc2 hu2 cI  ⊢
  go_wp2_with (go_at_call 50; (with_reducible refine cI.out.mono ?_); rintro e w2 ⟨rfl, b2⟩)
  go_ret2
  exact ⟨rfl, below2 hB0 b2⟩
set_option maxHeartbeats 1600000 in
theorem indexOf_no (m q : Int) (pa : Option Addr) (cap : Nat) (Z : List Prt) (u : ByteArray) (w : World) (hn : Z.length ≤ 1048576) (hv : PrtsAt w (.slice pa Z.length cap) Z) (hf : ¬ fdN (idP Z u) Z.length < Z.length) (x : Addr) (hE : Sen w 2 x) : Calls Tryd.prog 42 #[.agg #[.int .i64 m, .int .i64 q, .slice pa Z.length cap], .string u] w fun e w' => e = .returned (.tuple #[.int .i64 0, .iface 99 (.pointer (some x))]) ∧ Below w.heap.size w w' := by
  have hB0 : Below w.heap.size w ((w.alloc (.cells #[.int .i64 m, .int .i64 q, .slice pa Z.length cap] 52)).alloc (.cells #[.string u] 9)) := ((Below.refl _ _).alloc (Nat.le_refl _) _).alloc (by simp) _
  have hc2 : ((w.alloc (.cells #[.int .i64 m, .int .i64 q, .slice pa Z.length cap] 52)).alloc (.cells #[.string u] 9)).cell? ⟨w.heap.size, 2, none⟩ = some (.slice pa Z.length cap) := (((Below.refl _ _).alloc (Nat.le_refl _) _ : Below (w.alloc (.cells #[.int .i64 m, .int .i64 q, .slice pa Z.length cap] 52)).heap.size (w.alloc (.cells #[.int .i64 m, .int .i64 q, .slice pa Z.length cap] 52)) ((w.alloc (.cells #[.int .i64 m, .int .i64 q, .slice pa Z.length cap] 52)).alloc (.cells #[.string u] 9))).cell (p := ⟨w.heap.size, 2, none⟩) (by simp)).trans (bow_cells m q (.slice pa Z.length cap) w).2.2
  have hu2 : ((w.alloc (.cells #[.int .i64 m, .int .i64 q, .slice pa Z.length cap] 52)).alloc (.cells #[.string u] 9)).cell? ⟨w.heap.size + 1, 0, none⟩ = some (.string u) := cellB (by rw [show w.heap.size + 1 = (w.alloc (.cells #[.int .i64 m, .int .i64 q, .slice pa Z.length cap] 52)).heap.size by simp]; exact heap_alloc_new _ _) 0 _ rfl
  have cI0 := indexPrt_any (.slice pa Z.length cap) Z u (w.heap.size + 1) ((w.alloc (.cells #[.int .i64 m, .int .i64 q, .slice pa Z.length cap] 52)).alloc (.cells #[.string u] 9)) hn (by simp) hu2 (hv.below hB0)
  rw [show fdI Z u = -1 from if_neg hf] at cI0
  have hE1 := Lib.hid (fun W (hW : Below ((w.alloc (.cells #[.int .i64 m, .int .i64 q, .slice pa Z.length cap] 52)).alloc (.cells #[.string u] 9)).heap.size ((w.alloc (.cells #[.int .i64 m, .int .i64 q, .slice pa Z.length cap] 52)).alloc (.cells #[.string u] 9)) W) => (hE.below (below2 hB0 hW)).1)
  have cI := Lib.hid cI0
  clear hf hE
  clear cI0 hv
  go_enter Tryd.func42, Tryd.ntmps42
  go_wp2_with fail
  generalize ((w.alloc (.cells #[.int .i64 m, .int .i64 q, .slice pa Z.length cap] 52)).alloc (.cells #[.string u] 9)) = W0 at hB0 hc2 hu2 cI hE1 ⊢
  go_wp2_with (go_at_call 50; (with_reducible refine cI.out.mono ?_); rintro e w2 ⟨rfl, b2⟩; have hE2 := hE1.out _ b2)
  go_quiet (fail)
  go_wp2
  go_ret2
  exact ⟨rfl, belowN (below2 hB0 b2) _⟩
set_option maxHeartbeats 3200000 in
theorem moved_no (m q bal : Int) (pa : Option Addr) (cap : Nat) (Z : List Prt) (u : ByteArray) (p mm hh x : Addr) (hm : 1 ≤ m ∧ m ≤ 1200000) (hq : 0 ≤ q ∧ q ≤ 9600000000) (hb : 0 ≤ bal ∧ bal ≤ 8000) (hlo : bowOk Z) (w : World) (hv : PrtsAt w (.slice pa Z.length cap) Z) (hE : BowErrX w 3 p mm hh x) (hf : ¬ fdN (idP Z u) Z.length < Z.length) : Calls Tryd.prog 31 #[.agg #[.int .i64 m, .int .i64 q, .slice pa Z.length cap], .string u, .int .i64 bal] w fun e w' => e = .returned (.tuple #[.int .i64 (0), .iface 99 (.pointer (some p))]) ∧ Below w.heap.size w w' := by
  have hB0 : Below w.heap.size w (w.alloc (.cells #[.int .i64 m, .int .i64 q, .slice pa Z.length cap] 52)) := (Below.refl _ _).alloc (Nat.le_refl _) _
  have hsz : w.heap.size < (w.alloc (.cells #[.int .i64 m, .int .i64 q, .slice pa Z.length cap] 52)).heap.size := by simp
  have hbc := bow_cells m q (.slice pa Z.length cap) w
  obtain ⟨c0, c1, c2⟩ := hbc
  have hn : Z.length ≤ 1048576 := by have := hlo.1; omega
  have hv1 := hv.below hB0
  have cI := Lib.hid (indexOf_no m q pa cap Z u (w.alloc (.cells #[.int .i64 m, .int .i64 q, .slice pa Z.length cap] 52)) hn hv1 hf p (hE.1.1.1.below hB0))
  have hkk : Hid (∀ W, Below (w.alloc (.cells #[.int .i64 m, .int .i64 q, .slice pa Z.length cap] 52)).heap.size (w.alloc (.cells #[.int .i64 m, .int .i64 q, .slice pa Z.length cap] 52)) W → True ∧ True ∧ True) := Lib.hid (fun _ _ => ⟨trivial, trivial, trivial⟩)
  clear hv1 hv hf hE
  go_enter Tryd.func31, Tryd.ntmps31
  go_wp2_with fail
  generalize (w.alloc (.cells #[.int .i64 m, .int .i64 q, .slice pa Z.length cap] 52)) = W0 at hB0 hsz c0 c1 c2 cI hkk ⊢
  go_wp2_with (go_at_call 42; (with_reducible refine (cI.out).mono ?_); rintro e w1 ⟨rfl, b1⟩; obtain ⟨j0, j1, j2⟩ := hkk.out _ b1)
  go_ret2
  exact ⟨rfl, below2 hB0 b1⟩
set_option maxHeartbeats 3200000 in
theorem moved_yes (m q bal : Int) (pa : Option Addr) (cap : Nat) (Z : List Prt) (u : ByteArray) (p mm hh x : Addr) (hm : 1 ≤ m ∧ m ≤ 1200000) (hq : 0 ≤ q ∧ q ≤ 9600000000) (hb : 0 ≤ bal ∧ bal ≤ 8000) (hlo : bowOk Z) (w : World) (hv : PrtsAt w (.slice pa Z.length cap) Z) (hE : BowErrX w 3 p mm hh x) (hf : fdN (idP Z u) Z.length < Z.length) (hl : ltV (Z.getD (fdN (idP Z u) Z.length) prt0).mas (gmV Z m q bal (fdN (idP Z u) Z.length)) ≤ 8000) : Calls Tryd.prog 31 #[.agg #[.int .i64 m, .int .i64 q, .slice pa Z.length cap], .string u, .int .i64 bal] w fun e w' => e = .returned (.tuple #[.int .i64 (ltV (Z.getD (fdN (idP Z u) Z.length) prt0).mas (gmV Z m q bal (fdN (idP Z u) Z.length))), .nilIface]) ∧ Below w.heap.size w w' := by
  have hB0 : Below w.heap.size w (w.alloc (.cells #[.int .i64 m, .int .i64 q, .slice pa Z.length cap] 52)) := (Below.refl _ _).alloc (Nat.le_refl _) _
  have hsz : w.heap.size < (w.alloc (.cells #[.int .i64 m, .int .i64 q, .slice pa Z.length cap] 52)).heap.size := by simp
  have hbc := bow_cells m q (.slice pa Z.length cap) w
  obtain ⟨c0, c1, c2⟩ := hbc
  have hn : Z.length ≤ 1048576 := by have := hlo.1; omega
  have hv1 := hv.below hB0
  have cI := Lib.hid (indexOf_yes m q pa cap Z u (w.alloc (.cells #[.int .i64 m, .int .i64 q, .slice pa Z.length cap] 52)) hn hv1 hf)
  have hkk : Hid (∀ W, Below (w.alloc (.cells #[.int .i64 m, .int .i64 q, .slice pa Z.length cap] 52)).heap.size (w.alloc (.cells #[.int .i64 m, .int .i64 q, .slice pa Z.length cap] 52)) W → W.cell? ⟨w.heap.size, 0, none⟩ = some (.int .i64 m) ∧ W.cell? ⟨w.heap.size, 1, none⟩ = some (.int .i64 q) ∧ W.cell? ⟨w.heap.size, 2, none⟩ = some (.slice pa Z.length cap)) := Lib.hid (fun W hW => ⟨(hW.cell (p := ⟨w.heap.size, 0, none⟩) hsz).trans c0, (hW.cell (p := ⟨w.heap.size, 1, none⟩) hsz).trans c1, (hW.cell (p := ⟨w.heap.size, 2, none⟩) hsz).trans c2⟩)
  have hEx := Lib.hid (fun W (hW : Below (w.alloc (.cells #[.int .i64 m, .int .i64 q, .slice pa Z.length cap] 52)).heap.size (w.alloc (.cells #[.int .i64 m, .int .i64 q, .slice pa Z.length cap] 52)) W) => ((hE.below hB0).below hW).2.1.1)
  have hvv := Lib.hid (fun W (hW : Below (w.alloc (.cells #[.int .i64 m, .int .i64 q, .slice pa Z.length cap] 52)).heap.size (w.alloc (.cells #[.int .i64 m, .int .i64 q, .slice pa Z.length cap] 52)) W) => hv1.below hW)
  obtain ⟨k, hk⟩ : ∃ k, k = fdN (idP Z u) Z.length := ⟨_, rfl⟩
  rw [← hk] at cI hf hl ⊢
  have hkl := hf
  have hab := bowOk_at hlo hkl
  unfold gmV at hl ⊢
  rw [prt_getD_at' hkl] at hl ⊢
  clear hv1 hv hE hk hf
  have hkI : (k : Int) < (Z.length : Int) := by omega
  have hrd : Hid (∀ W, Below (w.alloc (.cells #[.int .i64 m, .int .i64 q, .slice pa Z.length cap] 52)).heap.size (w.alloc (.cells #[.int .i64 m, .int .i64 q, .slice pa Z.length cap] 52)) W → ∃ g o, pa = some ⟨g, o, none⟩ ∧ W.rangeAt g (o + k * 3) Z[k].cells) := Lib.hid (fun W hW => by
    obtain ⟨a1, c1', e1, _, _, hread⟩ := hvv.out W hW
    injection e1 with e1 _ _
    subst e1
    rcases hread with h | ⟨g, o, e2, hg, hc⟩
    · subst h; simp at hkl
    · exact ⟨g, o, e2, hc k hkl⟩)
  obtain ⟨xx, hxx⟩ : ∃ xx, xx = Z[k] := ⟨_, rfl⟩
  rw [← hxx] at hab hl hrd ⊢
  obtain ⟨s, a, b⟩ := xx
  simp only at hab hl ⊢
  have hmm := mom_bd hab.1 hab.2
  have hmb := ms_bd hm hq hb
  have hlb := ltV_bd (e := b) (g := msV m q bal + b * a) (G := 20000000000) (by omega) (by omega) (by omega)
  have cM := Lib.hid (fun W => missing_any m q bal hm hq hb W)
  have cT0 := fun W => leastTimes_any b (msV m q bal + b * a) (by omega) (by omega) W
  have e1 : IntKind.i64.wrap (b * a) = b * a := IntWalk.i64_in _ (by omega)
  have e2 : IntKind.i64.wrap (msV m q bal + b * a) = msV m q bal + b * a := IntWalk.i64_in _ (by omega)
  obtain ⟨n, hn9⟩ : ∃ n, n = ltV b (msV m q bal + b * a) := ⟨_, rfl⟩
  rw [← hn9] at cT0 hl hlb ⊢
  have cS0 := fun W => isOnStick_any n W
  rw [show inB n 0 8000 = true from inB_iff.2 (by omega)] at cS0
  have cS := Lib.hid cS0
  have cT := Lib.hid cT0
  clear hn9 hxx cS0 cT0 hmm hmb
  obtain ⟨M, hM⟩ : ∃ M, M = msV m q bal := ⟨_, rfl⟩
  rw [← hM] at cM cT e2
  clear hM
  obtain ⟨g, o, hpa, _⟩ := hrd.out (w.alloc (.cells #[.int .i64 m, .int .i64 q, .slice pa Z.length cap] 52)) (Below.refl _ _)
  subst hpa
  have hF1 : ∀ W, (Instr.field 52 (.agg #[.int .i64 m, .int .i64 q, .slice (some ⟨g, o, none⟩) Z.length cap]) 0).run Tryd.prog W = .ok (.agg #[.int .i64 m, .int .i64 q]) W := fun _ => by kernel_rfl
  clear hvv
  go_enter Tryd.func31, Tryd.ntmps31
  go_wp2_with fail
  generalize (w.alloc (.cells #[.int .i64 m, .int .i64 q, .slice (some ⟨g, o, none⟩) Z.length cap] 52)) = W0 at hB0 hsz c0 c1 c2 cI hkk hEx hrd ⊢
  go_wp2_with (first
    | (go_at_call 42; (with_reducible refine (cI.out).mono ?_); rintro e w1 ⟨rfl, b1⟩; obtain ⟨j0, j1, j2⟩ := hkk.out _ b1; have hr1 : w1.rangeAt g (o + k * 3) [.string s, .int .i64 a, .int .i64 b] := (by obtain ⟨g', o', e9, h9⟩ := hrd.out _ b1; injection e9 with e9; injection e9 with e9 e10; subst e9; subst e10; exact h9))
    | (refine wpList_load_mid rfl _ _ rfl g (o + k * 3) rfl _ _ hr1 Tryd.underlying43 rfl rfl ?_))
  have hP := prt_box s a b w1
  obtain ⟨x0, x1, x2⟩ := hP
  simp only [Nat.zero_add] at x0 x1 x2
  have hB2 : Below W0.heap.size W0 (w1.alloc (.cells #[.string s, .int .i64 a, .int .i64 b] 43)) := below2 b1 ((Below.refl _ _).alloc (Nat.le_refl _) _)
  have hGx : w1.heap.size < (w1.alloc (.cells #[.string s, .int .i64 a, .int .i64 b] 43)).heap.size := by simp
  have hsz2 : w.heap.size < (w1.alloc (.cells #[.string s, .int .i64 a, .int .i64 b] 43)).heap.size := Nat.lt_of_lt_of_le hsz hB2.size
  obtain ⟨j0, j1, j2⟩ := hkk.out _ hB2
  clear hr1 b1
  generalize (w1.alloc (.cells #[.string s, .int .i64 a, .int .i64 b] 43)) = W2 at hB2 hGx hsz2 x0 x1 x2 j0 j1 j2 ⊢
  generalize w1.heap.size = G at hGx x0 x1 x2 ⊢
  have keepH : Hid (∀ Wa Wb, (((Wa.cell? ⟨G, 0, none⟩ = some (.string s) ∧ Wa.cell? ⟨G, 1, none⟩ = some (.int .i64 a) ∧ Wa.cell? ⟨G, 2, none⟩ = some (.int .i64 b)) ∧ (Wa.cell? ⟨w.heap.size, 0, none⟩ = some (.int .i64 m) ∧ Wa.cell? ⟨w.heap.size, 1, none⟩ = some (.int .i64 q) ∧ Wa.cell? ⟨w.heap.size, 2, none⟩ = some (.slice (some ⟨g, o, none⟩) Z.length cap))) ∧ Below W2.heap.size W2 Wa) → Below Wa.heap.size Wa Wb → (((Wb.cell? ⟨G, 0, none⟩ = some (.string s) ∧ Wb.cell? ⟨G, 1, none⟩ = some (.int .i64 a) ∧ Wb.cell? ⟨G, 2, none⟩ = some (.int .i64 b)) ∧ (Wb.cell? ⟨w.heap.size, 0, none⟩ = some (.int .i64 m) ∧ Wb.cell? ⟨w.heap.size, 1, none⟩ = some (.int .i64 q) ∧ Wb.cell? ⟨w.heap.size, 2, none⟩ = some (.slice (some ⟨g, o, none⟩) Z.length cap))) ∧ Below W2.heap.size W2 Wb)) := Lib.hid (fun Wa Wb h1 h2 => by
    obtain ⟨⟨⟨p0, p1, p2⟩, q0, q1, q2⟩, hb⟩ := h1
    have hl := Nat.lt_of_lt_of_le hGx hb.size
    have hl2 := Nat.lt_of_lt_of_le hsz2 hb.size
    exact ⟨⟨⟨(h2.cell hl).trans p0, (h2.cell hl).trans p1, (h2.cell hl).trans p2⟩, (h2.cell hl2).trans q0, (h2.cell hl2).trans q1, (h2.cell hl2).trans q2⟩, hb.trans (h2.mono hb.size)⟩)
  have hS : ((W2.cell? ⟨G, 0, none⟩ = some (.string s) ∧ W2.cell? ⟨G, 1, none⟩ = some (.int .i64 a) ∧ W2.cell? ⟨G, 2, none⟩ = some (.int .i64 b)) ∧ (W2.cell? ⟨w.heap.size, 0, none⟩ = some (.int .i64 m) ∧ W2.cell? ⟨w.heap.size, 1, none⟩ = some (.int .i64 q) ∧ W2.cell? ⟨w.heap.size, 2, none⟩ = some (.slice (some ⟨g, o, none⟩) Z.length cap))) ∧ Below W2.heap.size W2 W2 := ⟨⟨⟨x0, x1, x2⟩, j0, j1, j2⟩, Below.refl _ _⟩
  clear x0 x1 x2 j0 j1 j2
  go_region_held3 (fun w' => (((w'.cell? ⟨G, 0, none⟩ = some (.string s) ∧ w'.cell? ⟨G, 1, none⟩ = some (.int .i64 a) ∧ w'.cell? ⟨G, 2, none⟩ = some (.int .i64 b)) ∧ (w'.cell? ⟨w.heap.size, 0, none⟩ = some (.int .i64 m) ∧ w'.cell? ⟨w.heap.size, 1, none⟩ = some (.int .i64 q) ∧ w'.cell? ⟨w.heap.size, 2, none⟩ = some (.slice (some ⟨g, o, none⟩) Z.length cap))) ∧ Below W2.heap.size W2 w'))
    (first | exact ⟨hS.1, belowN hS.2 1⟩ | exact keepH.out _ _ (by assumption) (by assumption) | assumption)
    (first | (go_at_call 39; (with_reducible refine (cM.out _).mono ?_); rintro e w' ⟨rfl, hbel⟩) | (go_at_call 40; (with_reducible refine (cT.out _).mono ?_); rintro e w' ⟨rfl, rfl⟩))
  rename_i hHeld
  go_wp2_with (go_at_call 25; (with_reducible refine (cS.out _).mono ?_); rintro e w' ⟨rfl, rfl⟩)
  go_ret2
  exact ⟨rfl, below2 hB0 (below2 hB2 hHeld.2)⟩
set_option maxHeartbeats 3200000 in
theorem moved_far (m q bal : Int) (pa : Option Addr) (cap : Nat) (Z : List Prt) (u : ByteArray) (p mm hh x : Addr) (hm : 1 ≤ m ∧ m ≤ 1200000) (hq : 0 ≤ q ∧ q ≤ 9600000000) (hb : 0 ≤ bal ∧ bal ≤ 8000) (hlo : bowOk Z) (w : World) (hv : PrtsAt w (.slice pa Z.length cap) Z) (hE : BowErrX w 3 p mm hh x) (hf : fdN (idP Z u) Z.length < Z.length) (hl : ¬ ltV (Z.getD (fdN (idP Z u) Z.length) prt0).mas (gmV Z m q bal (fdN (idP Z u) Z.length)) ≤ 8000) : Calls Tryd.prog 31 #[.agg #[.int .i64 m, .int .i64 q, .slice pa Z.length cap], .string u, .int .i64 bal] w fun e w' => e = .returned (.tuple #[.int .i64 (0), .iface 99 (.pointer (some x))]) ∧ Below w.heap.size w w' := by
  have hB0 : Below w.heap.size w (w.alloc (.cells #[.int .i64 m, .int .i64 q, .slice pa Z.length cap] 52)) := (Below.refl _ _).alloc (Nat.le_refl _) _
  have hsz : w.heap.size < (w.alloc (.cells #[.int .i64 m, .int .i64 q, .slice pa Z.length cap] 52)).heap.size := by simp
  have hbc := bow_cells m q (.slice pa Z.length cap) w
  obtain ⟨c0, c1, c2⟩ := hbc
  have hn : Z.length ≤ 1048576 := by have := hlo.1; omega
  have hv1 := hv.below hB0
  have cI := Lib.hid (indexOf_yes m q pa cap Z u (w.alloc (.cells #[.int .i64 m, .int .i64 q, .slice pa Z.length cap] 52)) hn hv1 hf)
  have hkk : Hid (∀ W, Below (w.alloc (.cells #[.int .i64 m, .int .i64 q, .slice pa Z.length cap] 52)).heap.size (w.alloc (.cells #[.int .i64 m, .int .i64 q, .slice pa Z.length cap] 52)) W → W.cell? ⟨w.heap.size, 0, none⟩ = some (.int .i64 m) ∧ W.cell? ⟨w.heap.size, 1, none⟩ = some (.int .i64 q) ∧ W.cell? ⟨w.heap.size, 2, none⟩ = some (.slice pa Z.length cap)) := Lib.hid (fun W hW => ⟨(hW.cell (p := ⟨w.heap.size, 0, none⟩) hsz).trans c0, (hW.cell (p := ⟨w.heap.size, 1, none⟩) hsz).trans c1, (hW.cell (p := ⟨w.heap.size, 2, none⟩) hsz).trans c2⟩)
  have hEx := Lib.hid (fun W (hW : Below (w.alloc (.cells #[.int .i64 m, .int .i64 q, .slice pa Z.length cap] 52)).heap.size (w.alloc (.cells #[.int .i64 m, .int .i64 q, .slice pa Z.length cap] 52)) W) => ((hE.below hB0).below hW).2.1.1)
  have hvv := Lib.hid (fun W (hW : Below (w.alloc (.cells #[.int .i64 m, .int .i64 q, .slice pa Z.length cap] 52)).heap.size (w.alloc (.cells #[.int .i64 m, .int .i64 q, .slice pa Z.length cap] 52)) W) => hv1.below hW)
  obtain ⟨k, hk⟩ : ∃ k, k = fdN (idP Z u) Z.length := ⟨_, rfl⟩
  rw [← hk] at cI hf hl 
  have hkl := hf
  have hab := bowOk_at hlo hkl
  unfold gmV at hl 
  rw [prt_getD_at' hkl] at hl 
  clear hv1 hv hE hk hf
  have hkI : (k : Int) < (Z.length : Int) := by omega
  have hrd : Hid (∀ W, Below (w.alloc (.cells #[.int .i64 m, .int .i64 q, .slice pa Z.length cap] 52)).heap.size (w.alloc (.cells #[.int .i64 m, .int .i64 q, .slice pa Z.length cap] 52)) W → ∃ g o, pa = some ⟨g, o, none⟩ ∧ W.rangeAt g (o + k * 3) Z[k].cells) := Lib.hid (fun W hW => by
    obtain ⟨a1, c1', e1, _, _, hread⟩ := hvv.out W hW
    injection e1 with e1 _ _
    subst e1
    rcases hread with h | ⟨g, o, e2, hg, hc⟩
    · subst h; simp at hkl
    · exact ⟨g, o, e2, hc k hkl⟩)
  obtain ⟨xx, hxx⟩ : ∃ xx, xx = Z[k] := ⟨_, rfl⟩
  rw [← hxx] at hab hl hrd 
  obtain ⟨s, a, b⟩ := xx
  simp only at hab hl 
  have hmm := mom_bd hab.1 hab.2
  have hmb := ms_bd hm hq hb
  have hlb := ltV_bd (e := b) (g := msV m q bal + b * a) (G := 20000000000) (by omega) (by omega) (by omega)
  have cM := Lib.hid (fun W => missing_any m q bal hm hq hb W)
  have cT0 := fun W => leastTimes_any b (msV m q bal + b * a) (by omega) (by omega) W
  have e1 : IntKind.i64.wrap (b * a) = b * a := IntWalk.i64_in _ (by omega)
  have e2 : IntKind.i64.wrap (msV m q bal + b * a) = msV m q bal + b * a := IntWalk.i64_in _ (by omega)
  obtain ⟨n, hn9⟩ : ∃ n, n = ltV b (msV m q bal + b * a) := ⟨_, rfl⟩
  rw [← hn9] at cT0 hl hlb 
  have cS0 := fun W => isOnStick_any n W
  rw [show inB n 0 8000 = false by cases h9 : inB n 0 8000; rfl; exact absurd (inB_iff.1 h9).2 (by omega)] at cS0
  have cS := Lib.hid cS0
  have cT := Lib.hid cT0
  clear hn9 hxx cS0 cT0 hmm hmb
  obtain ⟨M, hM⟩ : ∃ M, M = msV m q bal := ⟨_, rfl⟩
  rw [← hM] at cM cT e2
  clear hM
  obtain ⟨g, o, hpa, _⟩ := hrd.out (w.alloc (.cells #[.int .i64 m, .int .i64 q, .slice pa Z.length cap] 52)) (Below.refl _ _)
  subst hpa
  have hF1 : ∀ W, (Instr.field 52 (.agg #[.int .i64 m, .int .i64 q, .slice (some ⟨g, o, none⟩) Z.length cap]) 0).run Tryd.prog W = .ok (.agg #[.int .i64 m, .int .i64 q]) W := fun _ => by kernel_rfl
  clear hvv
  go_enter Tryd.func31, Tryd.ntmps31
  go_wp2_with fail
  generalize (w.alloc (.cells #[.int .i64 m, .int .i64 q, .slice (some ⟨g, o, none⟩) Z.length cap] 52)) = W0 at hB0 hsz c0 c1 c2 cI hkk hEx hrd ⊢
  go_wp2_with (first
    | (go_at_call 42; (with_reducible refine (cI.out).mono ?_); rintro e w1 ⟨rfl, b1⟩; obtain ⟨j0, j1, j2⟩ := hkk.out _ b1; have hr1 : w1.rangeAt g (o + k * 3) [.string s, .int .i64 a, .int .i64 b] := (by obtain ⟨g', o', e9, h9⟩ := hrd.out _ b1; injection e9 with e9; injection e9 with e9 e10; subst e9; subst e10; exact h9))
    | (refine wpList_load_mid rfl _ _ rfl g (o + k * 3) rfl _ _ hr1 Tryd.underlying43 rfl rfl ?_))
  have hP := prt_box s a b w1
  obtain ⟨x0, x1, x2⟩ := hP
  simp only [Nat.zero_add] at x0 x1 x2
  have hB2 : Below W0.heap.size W0 (w1.alloc (.cells #[.string s, .int .i64 a, .int .i64 b] 43)) := below2 b1 ((Below.refl _ _).alloc (Nat.le_refl _) _)
  have hGx : w1.heap.size < (w1.alloc (.cells #[.string s, .int .i64 a, .int .i64 b] 43)).heap.size := by simp
  have hsz2 : w.heap.size < (w1.alloc (.cells #[.string s, .int .i64 a, .int .i64 b] 43)).heap.size := Nat.lt_of_lt_of_le hsz hB2.size
  obtain ⟨j0, j1, j2⟩ := hkk.out _ hB2
  clear hr1 b1
  generalize (w1.alloc (.cells #[.string s, .int .i64 a, .int .i64 b] 43)) = W2 at hB2 hGx hsz2 x0 x1 x2 j0 j1 j2 ⊢
  generalize w1.heap.size = G at hGx x0 x1 x2 ⊢
  have keepH : Hid (∀ Wa Wb, (((Wa.cell? ⟨G, 0, none⟩ = some (.string s) ∧ Wa.cell? ⟨G, 1, none⟩ = some (.int .i64 a) ∧ Wa.cell? ⟨G, 2, none⟩ = some (.int .i64 b)) ∧ (Wa.cell? ⟨w.heap.size, 0, none⟩ = some (.int .i64 m) ∧ Wa.cell? ⟨w.heap.size, 1, none⟩ = some (.int .i64 q) ∧ Wa.cell? ⟨w.heap.size, 2, none⟩ = some (.slice (some ⟨g, o, none⟩) Z.length cap))) ∧ Below W2.heap.size W2 Wa) → Below Wa.heap.size Wa Wb → (((Wb.cell? ⟨G, 0, none⟩ = some (.string s) ∧ Wb.cell? ⟨G, 1, none⟩ = some (.int .i64 a) ∧ Wb.cell? ⟨G, 2, none⟩ = some (.int .i64 b)) ∧ (Wb.cell? ⟨w.heap.size, 0, none⟩ = some (.int .i64 m) ∧ Wb.cell? ⟨w.heap.size, 1, none⟩ = some (.int .i64 q) ∧ Wb.cell? ⟨w.heap.size, 2, none⟩ = some (.slice (some ⟨g, o, none⟩) Z.length cap))) ∧ Below W2.heap.size W2 Wb)) := Lib.hid (fun Wa Wb h1 h2 => by
    obtain ⟨⟨⟨p0, p1, p2⟩, q0, q1, q2⟩, hb⟩ := h1
    have hl := Nat.lt_of_lt_of_le hGx hb.size
    have hl2 := Nat.lt_of_lt_of_le hsz2 hb.size
    exact ⟨⟨⟨(h2.cell hl).trans p0, (h2.cell hl).trans p1, (h2.cell hl).trans p2⟩, (h2.cell hl2).trans q0, (h2.cell hl2).trans q1, (h2.cell hl2).trans q2⟩, hb.trans (h2.mono hb.size)⟩)
  have hS : ((W2.cell? ⟨G, 0, none⟩ = some (.string s) ∧ W2.cell? ⟨G, 1, none⟩ = some (.int .i64 a) ∧ W2.cell? ⟨G, 2, none⟩ = some (.int .i64 b)) ∧ (W2.cell? ⟨w.heap.size, 0, none⟩ = some (.int .i64 m) ∧ W2.cell? ⟨w.heap.size, 1, none⟩ = some (.int .i64 q) ∧ W2.cell? ⟨w.heap.size, 2, none⟩ = some (.slice (some ⟨g, o, none⟩) Z.length cap))) ∧ Below W2.heap.size W2 W2 := ⟨⟨⟨x0, x1, x2⟩, j0, j1, j2⟩, Below.refl _ _⟩
  clear x0 x1 x2 j0 j1 j2
  go_region_held3 (fun w' => (((w'.cell? ⟨G, 0, none⟩ = some (.string s) ∧ w'.cell? ⟨G, 1, none⟩ = some (.int .i64 a) ∧ w'.cell? ⟨G, 2, none⟩ = some (.int .i64 b)) ∧ (w'.cell? ⟨w.heap.size, 0, none⟩ = some (.int .i64 m) ∧ w'.cell? ⟨w.heap.size, 1, none⟩ = some (.int .i64 q) ∧ w'.cell? ⟨w.heap.size, 2, none⟩ = some (.slice (some ⟨g, o, none⟩) Z.length cap))) ∧ Below W2.heap.size W2 w'))
    (first | exact ⟨hS.1, belowN hS.2 1⟩ | exact keepH.out _ _ (by assumption) (by assumption) | assumption)
    (first | (go_at_call 39; (with_reducible refine (cM.out _).mono ?_); rintro e w' ⟨rfl, hbel⟩) | (go_at_call 40; (with_reducible refine (cT.out _).mono ?_); rintro e w' ⟨rfl, rfl⟩))
  rename_i hHeld
  go_wp2_with (go_at_call 25; (with_reducible refine (cS.out _).mono ?_); rintro e w' ⟨rfl, rfl⟩)
  have hE3 := hEx.out _ (below2 hB2 hHeld.2)
  go_quiet (fail)
  go_wp2
  go_ret2
  exact ⟨rfl, belowN (below2 hB0 (below2 hB2 hHeld.2)) _⟩
end Go.Proofs.YtmhiekfnkbldeaaDoor
