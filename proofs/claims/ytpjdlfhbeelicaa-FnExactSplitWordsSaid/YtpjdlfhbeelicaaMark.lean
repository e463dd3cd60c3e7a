/-
  Contracts of the law's own helpers: marks, marked rows, rows held against one another.
-/
import Derived.Test.YtpjdlfhbeelicaaSplit
import Derived.Deep.RegionHeld3
import Derived.Deep.DeepCutAuto
namespace Go.Proofs.Ytpjdlfhbeelicaa
open Go.ChangeShapes Go.WideShapes Go.ChangeAt Go.RowKit
set_option linter.unusedVariables false
set_option linter.unusedSimpArgs false

def digsN (n : Nat) : List UInt8 := if h : n = 0 then [] else digsN (n / 10) ++ [UInt8.ofNat (48 + n % 10)]
theorem digsN_pos (n : Nat) (h : 0 < n) : digsN n = digsN (n / 10) ++ [UInt8.ofNat (48 + n % 10)] := by
  rw [digsN, dif_neg (by omega)]
theorem digsN_zero : digsN 0 = [] := by rw [digsN, dif_pos rfl]

theorem digsN_len : ∀ (j n : Nat), n < 10 ^ j → (digsN n).length ≤ j
  | 0, n, h => by
    have : n = 0 := by simpa using h
    subst this; rw [digsN_zero]; exact Nat.le_refl 0
  | j + 1, n, h => by
    by_cases h0 : n = 0
    · subst h0; rw [digsN_zero]; exact Nat.zero_le _
    · rw [digsN_pos n (by omega)]
      have := digsN_len j (n / 10) (by rw [Nat.pow_succ] at h; omega)
      simp; omega
theorem digs_size (n k : Nat) (S : ByteArray) (hn : n ≤ 9223372036854775807) (h : digsN n = digsN k ++ S.data.toList) : S.size ≤ 19 := by
  have h1 := digsN_len 19 n (by omega)
  rw [h, List.length_append, len_data] at h1
  omega

set_option maxHeartbeats 1600000 in
theorem markText_any (n : Nat) (hn : n ≤ 9223372036854775807) (h0 : 0 < n) (w : World) :
    Calls Try.prog 36 #[.int .i64 n] w fun e w' => e = .returned (.string ⟨(109 :: digsN n).toArray⟩) ∧ Below w.heap.size w w' := by
  go_enter Try.func36, Try.ntmps36
  go_wp2
  go_loopw [0, 3] (fun i v wr => ∃ (k : Nat) (S : ByteArray), k ≤ 9223372036854775807 ∧ i = .int .i64 k ∧ v = .string S ∧ Below w.heap.size w wr ∧ Hid (digsN n = digsN k ++ S.data.toList)) (fun i _ _ => (intOf i).toNat)
  case atStart => exact ⟨n, ⟨#[]⟩, hn, rfl, rfl, Below.refl _ _, Lib.hid (by simp)⟩
  case round =>
    obtain ⟨k, S, hk, rfl, rfl, hbel, hd⟩ := hrel
    have hS := digs_size n k S hn hd.out
    by_cases hlt : 0 < k
    · obtain ⟨c, hc⟩ : ∃ c : UInt8, c = UInt8.ofNat (48 + k % 10) := ⟨_, rfl⟩
      have hcn : (c.toNat : Int) = 48 + (k : Int) % 10 := by rw [hc, UInt8.toNat_ofNat']; omega
      have kc : (convert 51 9 (.slice (some ⟨wr.heap.size, 0, none⟩) 1 1)).run Try.prog (wr.alloc (.cells #[.int .u8 (48 + (k : Int) % 10)] 5)) = .ok (.string ⟨#[c]⟩) (wr.alloc (.cells #[.int .u8 (48 + (k : Int) % 10)] 5)) :=
        run_convert_bytes_back (P := Try.prog) (wr.alloc (.cells #[.int .u8 (48 + (k : Int) % 10)] 5)) 51 9 5 ⟨wr.heap.size, 0, none⟩ 1 [c] Try.underlying51 Try.underlying5 Try.underlying9
          (fun j hj => by
            have : j = 0 := by simpa using hj
            subst this
            rw [← hcn]; simp [Addr.add])
      have hd2 : Hid (digsN n = digsN (k / 10) ++ (⟨#[c]⟩ ++ S : ByteArray).data.toList) := Lib.hid (by
        rw [hd.out, digsN_pos k hlt, ← hc, ByteArray.data_append]; simp)
      clear hc hcn hd
      go_wp2
      go_roundw
      case rel => exact ⟨k / 10, ⟨#[c]⟩ ++ S, by omega, by go_num, rfl, hbel.alloc hbel.size _, hd2⟩
      case measure => simp [intOf]; omega
    · have hz : Hid (digsN n = S.data.toList) := Lib.hid (by
        have : k = 0 := by omega
        subst this; have := hd.out; rwa [digsN_zero] at this)
      clear hd
      go_wp2
      go_ret
      exact ⟨congrArg Ending.returned (congrArg Value.string (bytes_of _ _ (by rw [ByteArray.data_append, hz.out]; simp))), hbel⟩

def markB (k : Nat) : ByteArray := ⟨(109 :: digsN k).toArray⟩
theorem markText_v (n : Nat) (hn : n ≤ 9223372036854775807) (h0 : 0 < n) (w : World) :
    Calls Try.prog 36 #[.int .i64 n] w fun e w' => e = .returned (.string (markB n)) ∧ Below w.heap.size w w' := markText_any n hn h0 w

theorem gtrans {a b c : World} {r : Option Nat} (h : a.grownBy b r) (k : b.grownBy c r) : a.grownBy c r :=
  ⟨k.os.trans h.os, k.tape.trans h.tape, k.output.trans h.output, Nat.le_trans h.size k.size, fun j hj hr => (k.block j (Nat.lt_of_lt_of_le hj h.size) hr).trans (h.block j hj hr)⟩
theorem below_grown' {a b : World} (h : Below a.heap.size a b) (r : Option Nat) : a.grownBy b r :=
  ⟨h.os, h.tape, h.output, h.size, fun j hj _ => h.block j hj⟩
theorem grown_drewN {a b : World} {r : Option Nat} (h : a.grownBy b r) (n : Nat) : a.grownBy (b.drewN n) r := ⟨h.os, h.tape, h.output, h.size, h.block⟩
/-- a row's cells: the first j are marks, k0 and on -/
def markRow (xs : List Value) (k0 j : Nat) : List Value := (List.range j).map (fun i => Value.string (markB (k0 + i))) ++ xs.drop j
theorem markRow_zero (xs : List Value) (k0 : Nat) : markRow xs k0 0 = xs := by simp [markRow]
theorem markRow_set (xs : List Value) (k0 j : Nat) (h : j < xs.length) : (markRow xs k0 j).set j (.string (markB (k0 + j))) = markRow xs k0 (j + 1) := by
  unfold markRow
  have e : (xs.drop j).set 0 (.string (markB (k0 + j))) = .string (markB (k0 + j)) :: xs.drop (j + 1) := by rw [List.drop_eq_getElem_cons h]; rfl
  rw [List.set_append_right _ _ (by simp)]
  simp [List.range_succ, e]
theorem markRow_len (xs : List Value) (k0 j : Nat) (h : j ≤ xs.length) : (markRow xs k0 j).length = xs.length := by simp [markRow]; omega
theorem markRow_all (xs : List Value) (k0 : Nat) : markRow xs k0 xs.length = (List.range xs.length).map (fun i => Value.string (markB (k0 + i))) := by simp [markRow]

theorem own_kept {w w' : World} {B e size n : Nat} {v : Value} {xs : List Value} (h : w.ownsRow B e size v n xs) (hb : Below w.heap.size w w') : w'.ownsRow B e size v n xs := by
  refine ⟨h.1, ?_⟩
  rcases h.2 with h1 | ⟨g, cap, cur, hv, hg, hc, r⟩
  · exact Or.inl h1
  · refine Or.inr ⟨g, cap, cur, hv, hg, ?_, r⟩
    have hl : g < w.heap.size := (h.lt g (by rw [hv]; rfl)).2
    rw [hb.block g hl]; exact hc

set_option maxHeartbeats 1600000 in
theorem markStringS_any (g n cap k0 B : Nat) (xs : List Value) (w : World) (hn : n ≤ 1048577) (hk0 : 0 < k0) (hk1 : k0 ≤ 1000000000000) (hx : xs.length = n)
    (hown : w.ownsRow B 9 1 (.slice (some ⟨g, 0, none⟩) n cap) n xs) :
    Calls Try.prog 17 #[.slice (some ⟨g, 0, none⟩) n cap, .int .i64 k0] w fun e w' =>
      e = .returned (.int .i64 ((k0 + n : Nat) : Int)) ∧ w'.ownsRow B 9 1 (.slice (some ⟨g, 0, none⟩) n cap) n (markRow xs k0 n) ∧ w.grownBy w' (some g) := by
  go_enter Try.func17, Try.ntmps17
  go_wp2
  go_loopw [1, 5] (fun q i wr => ∃ j m : Nat, j ≤ n ∧ i = .int .i64 j ∧ q = .int .i64 m ∧ 0 < m ∧ m ≤ 1000001048577 ∧ Hid (m = k0 + j) ∧ wr.ownsRow B 9 1 (.slice (some ⟨g, 0, none⟩) n cap) n (markRow xs k0 j) ∧ w.grownBy wr (some g)) (fun _ i _ => n - (intOf i).toNat)
  case atStart => exact ⟨0, k0, by omega, rfl, rfl, hk0, by omega, Lib.hid rfl, by rw [markRow_zero]; exact hown, World.grownBy.refl _ _⟩
  case round =>
    obtain ⟨j, m, hj, rfl, rfl, hm0, hm1, hm, ho, hg⟩ := hrel
    by_cases hlt : j < n
    · obtain ⟨old, hold⟩ : ∃ old, (markRow xs k0 j)[j]? = some old := ⟨_, List.getElem?_eq_getElem (by rw [markRow_len _ _ _ (by omega)]; omega)⟩
      have hset := Lib.hid (markRow_set xs k0 j (by omega))
      have hold' := Lib.hid hold
      have ho' := Lib.hid ho
      have hmn : m + 1 ≤ 1000001048577 := by have := hm.out; omega
      clear hold ho
      go_wp2_with (go_at_call 36; refine (markText_v m (by omega) hm0 _).mono ?_; rintro e w2 ⟨rfl, hb2⟩; have hc2 := ((own_kept ho'.out hb2).cellAt j (by omega)).trans hold'.out; have hf2 := (own_kept ho'.out hb2).frozenAt j)
      have hst := (own_kept ho'.out hb2).stored j (.string (markB m))
      go_roundw
      case rel => exact ⟨j + 1, m + 1, by omega, by go_num, by go_num, by omega, hmn, Lib.hid (by have := hm.out; omega), by have := hst.1; rw [hm.out, hset.out] at this; rw [hm.out]; exact this, gtrans hg (gtrans (below_grown' hb2 _) hst.2)⟩
      case measure => simp [intOf]; omega
    · have hjn : j = n := by omega
      have ho' : Hid (wr.ownsRow B 9 1 (.slice (some ⟨g, 0, none⟩) n cap) n (markRow xs k0 n)) := Lib.hid (by have h2 := ho; rw [hjn] at h2; exact h2)
      have hm' : Hid (m = k0 + n) := Lib.hid (by rw [← hjn]; exact hm.out)
      clear hjn ho hm
      go_wp2
      go_ret
      exact ⟨ret_int (by rw [hm'.out]), ho'.out, hg⟩

/-- a row of marks, held: the marks are still there -/
theorem heldStringS_any (g n cap k0 : Nat) (w : World) (hn : n ≤ 1048577) (hk0 : 0 < k0) (hk1 : k0 ≤ 1000000000000) (hcap : n ≤ cap)
    (hcell : ∀ j, j < n → w.cell? ⟨g, j, none⟩ = some (.string (markB (k0 + j)))) (hg : g < w.heap.size) :
    Calls Try.prog 18 #[.slice (some ⟨g, 0, none⟩) n cap, .int .i64 k0] w fun e w' =>
      e = .returned (.int .i64 ((k0 + n : Nat) : Int)) ∧ Below w.heap.size w w' := by
  have hcell' := Lib.hid hcell
  clear hcell
  go_enter Try.func18, Try.ntmps18
  go_wp2
  go_loopw [1, 5] (fun q i wr => ∃ j m : Nat, j ≤ n ∧ i = .int .i64 j ∧ q = .int .i64 m ∧ 0 < m ∧ m ≤ 1000001048577 ∧ Hid (m = k0 + j) ∧ Below w.heap.size w wr) (fun _ i _ => n - (intOf i).toNat)
  case atStart => exact ⟨0, k0, by omega, rfl, rfl, hk0, by omega, Lib.hid rfl, Below.refl _ _⟩
  case round =>
    obtain ⟨j, m, hj, rfl, rfl, hm0, hm1, hm, hbel⟩ := hrel
    by_cases hlt : j < n
    · have hcj : wr.cell? ⟨g, j, none⟩ = some (.string (markB m)) := by rw [hm.out]; exact (hbel.cell (by exact hg)).trans (hcell'.out j hlt)
      have hmn : m + 1 ≤ 1000001048577 := by have := hm.out; omega
      have hgr := hbel.size
      go_wp2
      go_region_held3 (fun w' => w'.cell? ⟨g, j, none⟩ = some (.string (markB m))) (go_keep)
        ((go_at_call 36; refine (markText_v m (by omega) hm0 _).mono ?_; rintro e w2 ⟨rfl, hb2⟩; have hc2 := hb2.cell (p := ⟨g, j, none⟩) (by simp; omega)))
      have hb3 := hbel.drew.trans (hb2.mono hgr)
      clear hb2 hc2 hcj
      go_wp2
      go_roundw
      case rel => exact ⟨j + 1, m + 1, by omega, by go_num, by go_num, by omega, hmn, Lib.hid (by have := hm.out; omega), hb3⟩
      case measure => simp [intOf]; omega
    · have hjn : j = n := by omega
      have hm' : Hid (m = k0 + n) := Lib.hid (by rw [← hjn]; exact hm.out)
      clear hjn hm
      go_wp2
      go_ret
      exact ⟨ret_int (by rw [hm'.out]), hbel⟩

/-- two rows of the same texts -/
theorem eqStringS_any (g g' n cap cap' : Nat) (X : Nat → ByteArray) (w : World) (hn : n ≤ 1048577)
    (h1 : ∀ j, j < n → w.cell? ⟨g, j, none⟩ = some (.string (X j))) (h2 : ∀ j, j < n → w.cell? ⟨g', j, none⟩ = some (.string (X j))) :
    Calls Try.prog 16 #[.slice (some ⟨g, 0, none⟩) n cap, .slice (some ⟨g', 0, none⟩) n cap'] w fun e w' =>
      e = .returned (.bool true) ∧ ∃ m, w' = w.drewN m := by
  have h1' := Lib.hid h1
  have h2' := Lib.hid h2
  clear h1 h2
  go_enter Try.func16, Try.ntmps16
  go_wp2
  go_loopw [5] (fun i wr => ∃ j q : Nat, j ≤ n ∧ i = .int .i64 j ∧ wr = w.drewN q) (fun i _ => n - (intOf i).toNat)
  case atStart => exact ⟨0, 0, by omega, rfl, rfl⟩
  case round =>
    obtain ⟨j, q, hj, rfl, rfl⟩ := hrel
    by_cases hlt : j < n
    · obtain ⟨x, hx⟩ : ∃ x, x = X j := ⟨_, rfl⟩
      have c1 : w.cell? ⟨g, j, none⟩ = some (.string x) := by rw [hx]; exact h1'.out j hlt
      have c2 : w.cell? ⟨g', j, none⟩ = some (.string x) := by rw [hx]; exact h2'.out j hlt
      clear hx
      go_wp2
      go_quiet (fail)
      go_wp2
      go_roundw
      case rel => exact ⟨j + 1, _, by omega, by go_num, rfl⟩
      case measure => simp [intOf]; omega
    · go_wp2
      go_ret
      exact ⟨rfl, q, rfl⟩

/-- .. over rows, nil too -/
theorem eqStringS_rows (v v' : Value) (B B' : Nat) (L : List (List UInt8)) (w : World) (hn : L.length ≤ 1048577)
    (h1 : w.ownsRow B 9 1 v L.length (L.map encS)) (h2 : w.ownsRow B' 9 1 v' L.length (L.map encS)) :
    Calls Try.prog 16 #[v, v'] w fun e w' => e = .returned (.bool true) ∧ ∃ m, w' = w.drewN m := by
  by_cases h0 : L.length = 0
  · have f1 : ∃ a c, v = .slice a 0 c := by
      rcases row_open h1 with ⟨h, _⟩ | ⟨g, cap, h, _⟩
      · exact ⟨_, _, h⟩
      · exact ⟨_, _, by rw [h, h0]⟩
    have f2 : ∃ a c, v' = .slice a 0 c := by
      rcases row_open h2 with ⟨h, _⟩ | ⟨g, cap, h, _⟩
      · exact ⟨_, _, h⟩
      · exact ⟨_, _, by rw [h, h0]⟩
    obtain ⟨a, c, rfl⟩ := f1
    obtain ⟨a', c', rfl⟩ := f2
    clear h1 h2 h0 hn
    go_enter Try.func16, Try.ntmps16
    go_wp2
    refine wp_loop_rounds 1 ?_
    rw [rounds_succ]
    go_wp2
    go_ret
    exact ⟨rfl, 0, rfl⟩
  · rcases row_open h1 with ⟨_, h⟩ | ⟨g, cap, rfl, _, _, _, _, _, c1⟩
    · rw [h] at h0; exact absurd rfl h0
    rcases row_open h2 with ⟨_, h⟩ | ⟨g', cap', rfl, _, _, _, _, _, c2⟩
    · rw [h] at h0; exact absurd rfl h0
    exact eqStringS_any g g' L.length cap cap' (fun j => ⟨(L.getD j []).toArray⟩) w hn c1 c2

theorem markStringS_row (v : Value) (n k0 B : Nat) (xs : List Value) (w : World) (hn : n ≤ 1048577) (hk0 : 0 < k0) (hk1 : k0 ≤ 1000000000000)
    (hown : w.ownsRow B 9 1 v n xs) :
    Calls Try.prog 17 #[v, .int .i64 k0] w fun e w' =>
      e = .returned (.int .i64 ((k0 + n : Nat) : Int)) ∧ w'.ownsRow B 9 1 v n ((List.range n).map fun i => Value.string (markB (k0 + i))) ∧ w.grownBy w' v.ownBlock := by
  have hx : xs.length = n := by rw [hown.1]; omega
  rcases hown.2 with ⟨rfl, rfl⟩ | ⟨g, cap, cur, rfl, _⟩
  · go_enter Try.func17, Try.ntmps17
    go_wp2
    refine wp_loop_rounds 1 ?_
    rw [rounds_succ]
    go_wp2
    go_ret
    exact ⟨rfl, World.ownsRow_nil _ _ _ _, World.grownBy.refl _ _⟩
  · refine (markStringS_any g n cap k0 B xs w hn hk0 hk1 hx hown).mono ?_
    rintro e w' ⟨h1, h2, h3⟩
    refine ⟨h1, ?_, h3⟩
    have := markRow_all xs k0
    rw [hx] at this
    rw [this] at h2; exact h2

theorem heldStringS_row (v : Value) (n k0 B : Nat) (w : World) (hn : n ≤ 1048577) (hk0 : 0 < k0) (hk1 : k0 ≤ 1000000000000)
    (hown : w.ownsRow B 9 1 v n ((List.range n).map fun i => Value.string (markB (k0 + i)))) :
    Calls Try.prog 18 #[v, .int .i64 k0] w fun e w' =>
      e = .returned (.int .i64 ((k0 + n : Nat) : Int)) ∧ Below w.heap.size w w' := by
  have h0 := hown
  rcases hown.2 with ⟨rfl, rfl⟩ | ⟨g, cap, cur, rfl, hg, hc, hle, _⟩
  · go_enter Try.func18, Try.ntmps18
    go_wp2
    refine wp_loop_rounds 1 ?_
    rw [rounds_succ]
    go_wp2
    go_ret
    exact ⟨rfl, Below.refl _ _⟩
  · refine heldStringS_any g n cap k0 w hn hk0 hk1 hle (fun j hj => ?_) (h0.lt g rfl).2
    rw [h0.cellAt j (by omega)]
    simp [hj]
end Go.Proofs.Ytpjdlfhbeelicaa
