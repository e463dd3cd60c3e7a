/-
  Rows of rows of numbers of the law's own: marked and held; a row more.
-/
import Derived.Test.YtmppaimcejcoiaaGridO
namespace Go.Proofs.Ytmppaimcejcoiaa
open Go.ChangeShapes Go.WideShapes Go.ChangeAt Go.RowKit Go.Deep
set_option linter.unusedVariables false
set_option linter.unusedSimpArgs false
set_option maxRecDepth 1000000
/-- n marks, k0 and on -/
def markR (k0 n : Nat) : List Int := (List.range n).map fun i => ((k0 + i : Nat) : Int)
theorem markR_len (k0 n : Nat) : (markR k0 n).length = n := by simp [markR]
/-- the rows of G, marked in their order -/
def markG : Nat → List (List Int) → List (List Int)
  | _, [] => []
  | k0, Z :: G => markR k0 Z.length :: markG (k0 + Z.length) G
theorem markG_len : ∀ (G : List (List Int)) (k0 : Nat), (markG k0 G).length = G.length
  | [], _ => rfl
  | Z :: G, k0 => by simp [markG, markG_len G]
theorem totL_mark : ∀ (G : List (List Int)) (k0 : Nat), totL (markG k0 G) = totL G
  | [], _ => rfl
  | Z :: G, k0 => by rw [markG, totL_cons, totL_cons, markR_len, totL_mark G]
theorem markG_append : ∀ (G H : List (List Int)) (k0 : Nat), markG k0 (G ++ H) = markG k0 G ++ markG (k0 + totL G) H
  | [], _, _ => rfl
  | Z :: G, H, k0 => by rw [List.cons_append, markG, markG, markG_append G H, totL_cons, List.cons_append, Nat.add_assoc]
theorem markG_get {G : List (List Int)} {k0 j : Nat} (h : j < G.length) : (markG k0 G)[j]? = some (markR (k0 + totL (G.take j)) G[j].length) := by
  have e : markG k0 G = markG k0 (G.take j ++ G.drop j) := by rw [List.take_append_drop]
  rw [e, markG_append, List.drop_eq_getElem_cons h, markG, List.getElem?_append_right (by rw [markG_len]; simp; omega), markG_len]
  have : j - (G.take j).length = 0 := by simp; omega
  rw [this]; rfl
/-- the first j rows are marked -/
def markTo (k0 j : Nat) (G : List (List Int)) : List (List Int) := markG k0 (G.take j) ++ G.drop j
theorem markTo_zero (k0 : Nat) (G : List (List Int)) : markTo k0 0 G = G := by simp [markTo, markG]
theorem markTo_all (k0 : Nat) (G : List (List Int)) : markTo k0 G.length G = markG k0 G := by simp [markTo]
theorem markTo_len (k0 j : Nat) (G : List (List Int)) (h : j ≤ G.length) : (markTo k0 j G).length = G.length := by simp [markTo, markG_len]; omega
theorem markTo_get {k0 j : Nat} {G : List (List Int)} (h : j < G.length) : (markTo k0 j G)[j]? = some G[j] := by
  unfold markTo
  rw [List.getElem?_append_right (by rw [markG_len]; simp; omega), markG_len, List.drop_eq_getElem_cons h]
  have : j - (G.take j).length = 0 := by simp; omega
  rw [this]; rfl
theorem markTo_set {k0 j : Nat} {G : List (List Int)} (h : j < G.length) : (markTo k0 j G).set j (markR (k0 + totL (G.take j)) G[j].length) = markTo k0 (j + 1) G := by
  unfold markTo
  rw [List.set_append_right _ _ (by rw [markG_len]; simp; omega), markG_len, List.drop_eq_getElem_cons h]
  have : j - (G.take j).length = 0 := by simp; omega
  rw [this, List.set_cons_zero, List.take_succ_eq_append_getElem h, markG_append, List.append_assoc]
  rfl
theorem grown_beside {lo hi : Nat} {w w' : World} {row : Option Nat} (h : w.grownBy w' row) (hr : ∀ k, row = some k → lo ≤ k ∧ k < hi) : Beside lo hi w w' := Beside.grown h hr
/-- one row is written over where it lies -/
theorem OwnG.over {lo hi k : Nat} {w w2 : World} {v u : Value} {Z : List Int} {G : List (List Int)} {vs : List Value} (h : OwnG lo hi w v G vs) (hk : k < G.length) (hu : vs[k]? = some u) (hg : w.grownBy w2 u.ownBlock)
    (ho : w2.ownsRow lo 2 1 u Z.length (Z.map encI)) (hz : ∀ n ∈ Z, inI n) (he : (2 : Nat) ≠ 36) : OwnG lo hi w2 v (G.set k Z) vs := by
  have hgk : G[k]? = some G[k] := List.getElem?_eq_getElem hk
  have hkind : v.ownBlock = none ∨ v.ownBlock ≠ u.ownBlock := own_kind h.top (h.row k u _ hu hgk) (Ne.symm he)
  have hvz : v.ownBlock = none ∨ v.ownBlock ≠ u.ownBlock := hkind
  refine ⟨Nat.le_trans h.hiW hg.size, by simp [h.len], by rw [List.length_set]; exact h.top.kept hg hvz, ?_, h.apart, ?_, h.topIn, h.rowIn⟩
  · intro i u' Z' e1 e2
    by_cases hik : i = k
    · subst hik
      rw [List.getElem?_set_self hk] at e2
      rw [hu] at e1
      cases e1; cases e2
      exact ho
    · rw [List.getElem?_set_ne (Ne.symm hik)] at e2
      exact (h.row i u' Z' e1 e2).kept hg (h.apart i k u' u hik e1 hu)
  · intro Z' hZ'
    rcases List.mem_or_eq_of_mem_set hZ' with h4 | rfl
    · exact h.inn Z' h4
    · exact hz
theorem markR_in {k0 n : Nat} (h : k0 + n ≤ 1000000000000) : ∀ x ∈ markR k0 n, inI x := by
  intro x hx
  obtain ⟨i, hi, rfl⟩ := List.mem_map.1 hx
  have := List.mem_range.1 hi
  unfold inI
  omega
theorem totL_take_le {G : List (List Int)} {j : Nat} (h : j ≤ G.length) : totL (G.take j) ≤ totL G := by
  have e : totL G = totL (G.take j ++ G.drop j) := by rw [List.take_append_drop]
  rw [e, totL_append]; omega
set_option maxHeartbeats 1600000 in
theorem markInt64SS_any (v : Value) (G : List (List Int)) (vs : List Value) (lo hi k0 : Nat) (w : World) (hn : G.length + totL G ≤ 1048576) (hk0 : 0 < k0) (hk1 : k0 ≤ 1000000000) (hv : OwnG lo hi w v G vs) :
    Calls Try.prog 14 #[v, .int .i64 k0] w fun e w' => e = .returned (.int .i64 ((k0 + totL G : Nat) : Int)) ∧ OwnG lo hi w' v (markG k0 G) vs ∧ Beside lo hi w w' := by
  have hv0 := hv
  rcases hv.top.2 with ⟨rfl, hz⟩ | ⟨g, cap, cur, rfl, _⟩
  · have hZ : G = [] := List.eq_nil_of_length_eq_zero hz
    subst hZ
    have hv1 := Lib.hid hv0
    clear hv0 hv hz
    go_enter Try.func14, Try.ntmps14
    go_wp2
    refine wp_loop_rounds 1 ?_
    rw [rounds_succ]
    go_wp2
    go_ret
    exact ⟨rfl, hv1.out, Beside.refl _ _ _⟩
  obtain ⟨n, hnn⟩ : ∃ n, n = G.length := ⟨_, rfl⟩
  have hn2 : n ≤ 1048576 := by omega
  have hnn' := Lib.hid hnn
  have hn' := Lib.hid hn
  have hv1 := Lib.hid hv0
  rw [← hnn]
  clear hv0 hv hnn hn
  go_enter Try.func14, Try.ntmps14
  go_wp2
  go_loopw [1, 5] (fun q i wr => ∃ j m : Nat, j ≤ n ∧ i = .int .i64 j ∧ q = .int .i64 m ∧ 0 < m ∧ m ≤ 1001048576 ∧ Hid (m = k0 + totL (G.take j)) ∧ Hid (OwnG lo hi wr (.slice (some ⟨g, 0, none⟩) n cap) (markTo k0 j G) vs) ∧ Hid (Beside lo hi w wr)) (fun _ i _ => n - (intOf i).toNat)
  case atStart => exact ⟨0, k0, by omega, rfl, rfl, hk0, by omega, Lib.hid rfl, Lib.hid (by rw [markTo_zero, hnn'.out]; exact hv1.out), Lib.hid (Beside.refl _ _ _)⟩
  case round =>
    obtain ⟨j, m, hj, rfl, rfl, hm0, hm1, hm, ho, hb⟩ := hrel
    by_cases hlt : j < n
    · have hjl : j < G.length := by rw [← hnn'.out]; exact hlt
      have hml : (markTo k0 j G).length = n := by rw [markTo_len _ _ _ (by omega), hnn'.out]
      obtain ⟨u, hu⟩ : ∃ u, vs[j]? = some u := ⟨_, List.getElem?_eq_getElem (by rw [ho.out.len, hml]; exact hlt)⟩
      have hcx := (ho.out.cellAt hml.symm hlt).trans hu
      have hrow := ho.out.row j u _ hu (markTo_get hjl)
      have hzl : G[j].length ≤ 1048577 := by have := totL_ge (List.getElem_mem hjl); have := hn'.out; omega
      have hset := markTo_set (k0 := k0) hjl
      have htk := totL_take hjl
      have htl := totL_take_le (G := G) (j := j + 1) (by omega)
      have hto := hn'.out
      have hmo := hm.out
      obtain ⟨Z, hZe⟩ : ∃ Z, Z = G[j] := ⟨_, rfl⟩
      rw [← hZe] at hrow hzl hset htk
      have hm2 : m + Z.length ≤ 1001048576 := by omega
      have hm3 : Hid (m + Z.length = k0 + totL (G.take (j + 1))) := Lib.hid (by omega)
      have hin := markR_in (k0 := m) (n := Z.length) (by omega)
      rw [← hmo] at hset
      have key : Hid (∀ w2, w2.ownsRow lo 2 1 u Z.length ((markR m Z.length).map encI) → wr.grownBy w2 u.ownBlock → Hid (OwnG lo hi w2 (.slice (some ⟨g, 0, none⟩) n cap) (markTo k0 (j + 1) G) vs) ∧ Hid (Beside lo hi w w2)) := Lib.hid (fun w2 h1 h2 => by
        refine ⟨Lib.hid ?_, Lib.hid (hb.out.trans (Beside.grown h2 (fun k hk => ⟨(hrow.lt k hk).1, ho.out.rowIn j u hu k hk⟩)))⟩
        rw [← hset]
        exact ho.out.over (by rw [hml]; exact hlt) hu h2 (by rw [markR_len]; exact h1) hin (by decide))
      have cM := Lib.hid (fun W (h : W.ownsRow lo 2 1 u Z.length (Z.map encI)) => markInt64S_row u m lo Z W hzl hm0 (by omega) h)
      have hrow' := Lib.hid hrow
      obtain ⟨a2, c2, rfl⟩ := own_shape hrow
      clear hset hZe htk htl hto hmo hin hrow hml hu hjl
      go_wp2_with (go_at_call 43; refine (cM.out _ hrow'.out).mono ?_; rintro e w2 ⟨rfl, o2, b2⟩; obtain ⟨q1, q2⟩ := key.out w2 o2 b2; clear o2 b2)
      go_roundw
      case rel => exact ⟨j + 1, m + Z.length, by omega, by go_num, rfl, by omega, hm2, hm3, q1, q2⟩
      case measure => simp [intOf]; omega
    · have hjn : j = n := by omega
      have ho2 : Hid (OwnG lo hi wr (.slice (some ⟨g, 0, none⟩) n cap) (markG k0 G) vs) := Lib.hid (by have h2 := ho.out; rw [hjn, hnn'.out, markTo_all, ← hnn'.out] at h2; exact h2)
      have hm' : Hid (m = k0 + totL G) := Lib.hid (by have := hm.out; rw [hjn, hnn'.out, List.take_length] at this; exact this)
      clear hjn ho hm
      go_wp2
      go_ret
      exact ⟨ret_int (by rw [hm'.out]), ho2.out, hb.out⟩
set_option maxHeartbeats 1600000 in
theorem heldInt64SS_any (v : Value) (G : List (List Int)) (vs : List Value) (lo hi k0 : Nat) (w : World) (hn : G.length + totL G ≤ 1048576) (hk0 : 0 < k0) (hk1 : k0 ≤ 1000000000) (hv : OwnG lo hi w v (markG k0 G) vs) :
    Calls Try.prog 15 #[v, .int .i64 k0] w fun e w' => e = .returned (.int .i64 ((k0 + totL G : Nat) : Int)) ∧ ∃ q, w' = w.drewN q := by
  have hv0 := hv
  rcases hv.top.2 with ⟨rfl, hz⟩ | ⟨g, cap, cur, rfl, _⟩
  · have hZ : G = [] := List.eq_nil_of_length_eq_zero (by rw [markG_len] at hz; exact hz)
    subst hZ
    clear hv0 hv hz
    go_enter Try.func15, Try.ntmps15
    go_wp2
    refine wp_loop_rounds 1 ?_
    rw [rounds_succ]
    go_wp2
    go_ret
    exact ⟨rfl, 0, rfl⟩
  have hv0 := hv
  rw [markG_len]
  obtain ⟨n, hnn⟩ : ∃ n, n = G.length := ⟨_, rfl⟩
  have hn2 : n ≤ 1048576 := by omega
  rw [markG_len, ← hnn] at hv0
  have hnn' := Lib.hid hnn
  have hn' := Lib.hid hn
  have hv1 := Lib.hid hv0
  rw [← hnn]
  clear hv0 hv hnn hn
  go_enter Try.func15, Try.ntmps15
  go_wp2
  go_loopw [1, 5] (fun q i wr => ∃ j m d : Nat, j ≤ n ∧ i = .int .i64 j ∧ q = .int .i64 m ∧ 0 < m ∧ m ≤ 1001048576 ∧ Hid (m = k0 + totL (G.take j)) ∧ wr = w.drewN d) (fun _ i _ => n - (intOf i).toNat)
  case atStart => exact ⟨0, k0, 0, by omega, rfl, rfl, hk0, by omega, Lib.hid rfl, rfl⟩
  case round =>
    obtain ⟨j, m, d, hj, rfl, rfl, hm0, hm1, hm, rfl⟩ := hrel
    by_cases hlt : j < n
    · have hjl : j < G.length := by rw [← hnn'.out]; exact hlt
      have hml : (markG k0 G).length = n := by rw [markG_len, hnn'.out]
      obtain ⟨u, hu⟩ : ∃ u, vs[j]? = some u := ⟨_, List.getElem?_eq_getElem (by rw [hv1.out.len, hml]; exact hlt)⟩
      have hcx := (hv1.out.cellAt hml.symm hlt).trans hu
      have hrow := hv1.out.row j u _ hu (markG_get hjl)
      rw [markR_len] at hrow
      have hzl : G[j].length ≤ 1048577 := by have := totL_ge (List.getElem_mem hjl); have := hn'.out; omega
      have htk := totL_take hjl
      have htl := totL_take_le (G := G) (j := j + 1) (by omega)
      have hto := hn'.out
      have hmo := hm.out
      rw [← hmo] at hrow
      obtain ⟨L, hL⟩ : ∃ L, L = G[j].length := ⟨_, rfl⟩
      rw [← hL] at hrow hzl htk
      have hm2 : m + L ≤ 1001048576 := by omega
      have hm3 : Hid (m + L = k0 + totL (G.take (j + 1))) := Lib.hid (by omega)
      have cM := Lib.hid (fun q => heldInt64S_row u L m lo (w.drewN q) hzl hm0 (by omega) (own_kept hrow (belowN (Below.refl _ _) q)))
      obtain ⟨a2, c2, rfl⟩ := own_shape hrow
      clear htk htl hto hmo hrow hml hu hL hjl
      go_wp2_with (go_at_call 44; refine (cM.out _).mono ?_; rintro e w2 ⟨rfl, q2, rfl⟩)
      go_roundw
      case rel => exact ⟨j + 1, m + L, _, by omega, by go_num, rfl, by omega, hm2, hm3, rfl⟩
      case measure => simp [intOf]; omega
    · have hjn : j = n := by omega
      have hm' : Hid (m = k0 + totL G) := Lib.hid (by have := hm.out; rw [hjn, hnn'.out, List.take_length] at this; exact this)
      clear hjn hm
      go_wp2
      go_ret
      exact ⟨ret_int (by rw [hm'.out]), d, rfl⟩
/-- one row more behind the last one -/
theorem OwnG.snoc {lo hi : Nat} {w w1 w2 : World} {v v' u : Value} {Z : List Int} {G : List (List Int)} {vs : List Value} (h : OwnG lo hi w v G vs) (hb : Below w.heap.size w w1) (hu : w1.ownsRow w.heap.size 2 1 u Z.length (Z.map encI)) (hz : ∀ n ∈ Z, inI n)
    (hg : w1.grownBy w2 v.ownBlock) (ht : w2.ownsRow lo 36 1 v' (G.length + 1) (vs ++ [u])) (hlo : lo ≤ w.heap.size) (he : (2 : Nat) ≠ 36) : OwnG lo w2.heap.size w2 v' (G ++ [Z]) (vs ++ [u]) := by
  have h1 := h.kept hb
  have hz1 : w.heap.size ≤ w1.heap.size := hb.size
  have hz2 : w1.heap.size ≤ w2.heap.size := hg.size
  have hu2 : w2.ownsRow lo 2 1 u Z.length (Z.map encI) := (own_low hu hlo).kept hg (own_kind hu h1.top he)
  have hrow : ∀ (i : Nat) u' Z', vs[i]? = some u' → G[i]? = some Z' → w2.ownsRow lo 2 1 u' Z'.length (Z'.map encI) := fun i u' Z' e1 e2 => (h1.row i u' Z' e1 e2).kept hg (own_kind (h1.row i u' Z' e1 e2) h1.top he)
  have hlt : ∀ (i : Nat) u', vs[i]? = some u' → ∀ b, u'.ownBlock = some b → b < w.heap.size := fun i u' e b hb' => Nat.lt_of_lt_of_le (h.rowIn i u' e b hb') h.hiW
  have split : ∀ (i : Nat) u', (vs ++ [u])[i]? = some u' → (vs[i]? = some u' ∧ i < vs.length) ∨ (i = vs.length ∧ u' = u) := fun i u' e => by
    rcases Nat.lt_or_ge i vs.length with h3 | h3
    · rw [List.getElem?_append_left h3] at e; exact Or.inl ⟨e, h3⟩
    · rw [List.getElem?_append_right h3] at e
      match hd : i - vs.length, e with
      | 0, e => simp at e; exact Or.inr ⟨by omega, e.symm⟩
      | n + 1, e => simp at e
  refine ⟨Nat.le_refl _, by simp [h.len], by simpa using ht, ?_, ?_, ?_, fun b hb' => (ht.lt b hb').2, ?_⟩
  · intro i u' Z' e1 e2
    rcases split i u' e1 with ⟨e1, hi⟩ | ⟨rfl, rfl⟩
    · rw [List.getElem?_append_left (by rw [← h.len]; exact hi)] at e2
      exact hrow i u' Z' e1 e2
    · rw [h.len, List.getElem?_append_right (Nat.le_refl _)] at e2
      simp at e2; subst e2
      exact hu2
  · intro i j u1 u2 hij e1 e2
    rcases split i u1 e1 with ⟨f1, hi⟩ | ⟨rfl, rfl⟩
    · rcases split j u2 e2 with ⟨f2, hj⟩ | ⟨rfl, rfl⟩
      · exact h.apart i j u1 u2 hij f1 f2
      · cases e3 : u1.ownBlock with
        | none => exact Or.inl rfl
        | some b =>
          right
          intro hh
          have := hlt i u1 f1 b e3
          have h3 := (hu.lt b hh.symm).1
          omega
    · rcases split j u2 e2 with ⟨f2, hj⟩ | ⟨rfl, rfl⟩
      · cases e3 : u1.ownBlock with
        | none => exact Or.inl rfl
        | some b =>
          right
          intro hh
          have := hlt j u2 f2 b hh.symm
          have h3 := (hu.lt b e3).1
          omega
      · exact absurd rfl hij
  · intro Z' hZ'
    rcases List.mem_append.1 hZ' with h4 | h4
    · exact h.inn Z' h4
    · simp at h4; subst h4; exact hz
  · intro i u' e1 b hb2
    rcases split i u' e1 with ⟨e1, hi⟩ | ⟨rfl, rfl⟩
    · exact Nat.lt_of_lt_of_le (hlt i u' e1 b hb2) (by omega)
    · exact Nat.lt_of_lt_of_le (hu.lt b hb2).2 hz2
def SzGRetN (n0 : Int) (G : List (List Int)) (w : World) (e : Ending) (w' : World) : Prop := ∃ n : Int, e = .returned (.int .i64 n) ∧ -1 ≤ n ∧ n ≤ 1048576 ∧ (0 ≤ n → ((G.length + totL G : Nat) : Int) ≤ n0) ∧ w' = w
set_option maxHeartbeats 1600000 in
theorem szInt64SS_less (v : Value) (G : List (List Int)) (n0 : Int) (w : World) (h00 : 0 ≤ n0) (h01 : n0 ≤ 1048576) (hlen : G.length ≤ maxLen) (hrow : ∀ Z ∈ G, Z.length ≤ maxLen) (hv : GridAt w v G) : Calls Try.prog 7 #[v, .int .i64 n0] w (SzGRetN n0 G w) := by
  unfold maxLen at hlen
  obtain ⟨a, cap, rfl, hcap, hread⟩ := hv
  have hread' := Lib.hid hread
  have hrow' := Lib.hid hrow
  clear hread hrow
  by_cases hL : (G.length : Int) ≤ n0
  rotate_left
  · go_enter Try.func7, Try.ntmps7
    go_wp2
    go_ret
    exact ⟨_, rfl, by omega, by omega, fun h => by omega, rfl⟩
  go_enter Try.func7, Try.ntmps7
  go_wp2
  go_loopw [1, 5] (fun l i wr => ∃ (k : Nat) (n : Int), k ≤ G.length ∧ i = .int .i64 k ∧ l = .int .i64 n ∧ 0 ≤ n ∧ n ≤ 1048576 ∧ Hid (n = n0 - G.length - totL (G.take k)) ∧ wr = w) (fun _ i _ => G.length - (intOf i).toNat)
  case atStart => exact ⟨0, _, by omega, rfl, rfl, by omega, by omega, Lib.hid (by simp [totL]), rfl⟩
  case round =>
    obtain ⟨k, n, hk, rfl, rfl, hn0, hn1, hall, rfl⟩ := hrel
    by_cases hlt : k < G.length
    · rcases hread'.out with h | ⟨g, o, rfl, hg, hc⟩
      · subst h; simp at hlt
      obtain ⟨u, hu, hZ⟩ := hc k hlt
      have hzl : G[k].length ≤ maxLen := hrow'.out _ (List.getElem_mem hlt)
      have hall2 := hall.out
      have htk := totL_take hlt
      obtain ⟨Z, hZe⟩ : ∃ Z, Z = G[k] := ⟨_, rfl⟩
      rw [← hZe] at hZ hzl htk
      have hnew : Hid (n - Z.length = n0 - G.length - totL (G.take (k + 1))) := Lib.hid (by omega)
      have hall3 := Lib.hid hall2
      have hZ' := Lib.hid hZ
      have hzl' := Lib.hid hzl
      have htk' := Lib.hid htk
      clear hall2 htk hZe hc hZ hzl
      by_cases hsz : (Z.length : Int) ≤ n
      · go_wp2_with (go_at_call 20; refine (szInt64S_any _ Z _ _ hn0 hn1 hzl'.out hZ'.out).mono ?_; rw [if_pos hsz]; rintro e w2 ⟨rfl, rfl⟩)
        go_roundw
        case rel => exact ⟨k + 1, n - Z.length, by omega, by go_num, rfl, by omega, by omega, hnew, trivial⟩
        case measure => simp [intOf]; omega
      · go_wp2_with (go_at_call 20; refine (szInt64S_any _ Z _ _ hn0 hn1 hzl'.out hZ'.out).mono ?_; rw [if_neg hsz]; rintro e w2 ⟨rfl, rfl⟩)
        go_ret
        exact ⟨_, rfl, by omega, by omega, fun h => by omega, rfl⟩
    · have hkl : k = G.length := by omega
      have hall2 : Hid (0 ≤ n → ((G.length + totL G : Nat) : Int) ≤ n0) := Lib.hid (by have := hall.out; rw [hkl, List.take_length] at this; omega)
      clear hkl
      go_wp2
      go_ret
      exact ⟨_, rfl, by omega, by omega, hall2.out, rfl⟩
end Go.Proofs.Ytmppaimcejcoiaa
