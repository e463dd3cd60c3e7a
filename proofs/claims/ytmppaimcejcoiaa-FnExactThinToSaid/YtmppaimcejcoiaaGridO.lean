/-
  Rows of rows of numbers that a call owns: laid, kept, grown, marked and held; the law's own copies.
-/
import Derived.Test.YtmppaimcejcoiaaGrid
namespace Go.Proofs.Ytmppaimcejcoiaa
open Go.ChangeShapes Go.WideShapes Go.ChangeAt Go.RowKit Go.Deep
set_option linter.unusedVariables false
set_option linter.unusedSimpArgs false
set_option maxRecDepth 1000000
/-- blocks below lo and from hi on are as they were -/
structure Beside (lo hi : Nat) (w w' : World) : Prop where
  os : w'.os = w.os
  tape : w'.tape = w.tape
  output : w'.output = w.output
  size : w.heap.size ≤ w'.heap.size
  block : ∀ k, k < w.heap.size → (k < lo ∨ hi ≤ k) → w'.heap[k]? = w.heap[k]?
theorem Beside.refl (lo hi : Nat) (w : World) : Beside lo hi w w := ⟨rfl, rfl, rfl, Nat.le_refl _, fun _ _ _ => rfl⟩
theorem Beside.trans {lo hi : Nat} {a b c : World} (h : Beside lo hi a b) (k : Beside lo hi b c) : Beside lo hi a c :=
  ⟨k.os.trans h.os, k.tape.trans h.tape, k.output.trans h.output, Nat.le_trans h.size k.size, fun i hi hd => (k.block i (Nat.lt_of_lt_of_le hi h.size) hd).trans (h.block i hi hd)⟩
theorem Beside.grown {lo hi : Nat} {w w' : World} {row : Option Nat} (h : w.grownBy w' row) (hr : ∀ k, row = some k → lo ≤ k ∧ k < hi) : Beside lo hi w w' :=
  ⟨h.os, h.tape, h.output, h.size, fun k hk hd => h.block k hk (fun e => by have := hr k e.symm; omega)⟩
theorem Beside.below {lo hi : Nat} {w w' : World} (h : Beside lo hi w w') (hl : lo ≤ w.heap.size) : Below lo w w' :=
  ⟨h.os, h.tape, h.output, h.size, fun k hk => h.block k (by omega) (Or.inl hk)⟩
theorem Beside.of_below {lo hi : Nat} {w w' : World} (h : Below w.heap.size w w') : Beside lo hi w w' :=
  ⟨h.os, h.tape, h.output, h.size, fun k hk _ => h.block k hk⟩
theorem Beside.drewN {lo hi : Nat} {a w : World} (h : Beside lo hi a w) (n : Nat) : Beside lo hi a (w.drewN n) := ⟨h.os, h.tape, h.output, h.size, h.block⟩
/-- rows of its own: the outer one's cells are vs, each holds a row of its own, all apart, all between lo and hi -/
structure OwnG (lo hi : Nat) (w : World) (v : Value) (G : List (List Int)) (vs : List Value) : Prop where
  hiW : hi ≤ w.heap.size
  len : vs.length = G.length
  top : w.ownsRow lo 36 1 v G.length vs
  row : ∀ (i : Nat) u Z, vs[i]? = some u → G[i]? = some Z → w.ownsRow lo 2 1 u Z.length (Z.map encI)
  apart : ∀ (i j : Nat) u u', i ≠ j → vs[i]? = some u → vs[j]? = some u' → u.ownBlock = none ∨ u.ownBlock ≠ u'.ownBlock
  inn : ∀ Z ∈ G, ∀ n ∈ Z, inI n
  topIn : ∀ b, v.ownBlock = some b → b < hi
  rowIn : ∀ (i : Nat) u, vs[i]? = some u → ∀ b, u.ownBlock = some b → b < hi
theorem own_kind {w : World} {B B' e e' size size' n n' : Nat} {v u : Value} {xs ys : List Value} (h : w.ownsRow B e size v n xs) (k : w.ownsRow B' e' size' u n' ys) (he : e ≠ e') : v.ownBlock = none ∨ v.ownBlock ≠ u.ownBlock := by
  rcases h.2 with ⟨rfl, _⟩ | ⟨g, cap, cur, rfl, _, hb, _⟩
  · exact Or.inl rfl
  · right
    intro hh
    rcases k.2 with ⟨rfl, _⟩ | ⟨g', cap', cur', rfl, _, hb', _⟩
    · simp [Value.ownBlock] at hh
    · simp only [Value.ownBlock, Option.some.injEq] at hh
      subst hh
      rw [hb] at hb'
      injection hb' with h1
      injection h1 with _ h2
      exact he h2
theorem own_shape {w : World} {B e size n : Nat} {v : Value} {xs : List Value} (h : w.ownsRow B e size v n xs) : ∃ a cap, v = .slice a n cap := by
  rcases h.2 with ⟨rfl, rfl⟩ | ⟨g, cap, _, rfl, _⟩
  · exact ⟨none, 0, rfl⟩
  · exact ⟨_, cap, rfl⟩
theorem OwnG.nil (lo : Nat) (w : World) : OwnG lo w.heap.size w (.slice none 0 0) [] [] :=
  ⟨Nat.le_refl _, rfl, World.ownsRow_nil _ _ _ _, fun i u Z h => by simp at h, fun i j u u' _ h => by simp at h, fun Z h => by simp at h, fun b h => by simp [Value.ownBlock] at h, fun i u h => by simp at h⟩
theorem OwnG.wide {lo hi hi' : Nat} {w : World} {v : Value} {G : List (List Int)} {vs : List Value} (h : OwnG lo hi w v G vs) (h1 : hi ≤ hi') (h2 : hi' ≤ w.heap.size) : OwnG lo hi' w v G vs :=
  ⟨h2, h.len, h.top, h.row, h.apart, h.inn, fun b e => Nat.lt_of_lt_of_le (h.topIn b e) h1, fun i u e b hb => Nat.lt_of_lt_of_le (h.rowIn i u e b hb) h1⟩
theorem OwnG.low {lo lo' hi : Nat} {w : World} {v : Value} {G : List (List Int)} {vs : List Value} (h : OwnG lo hi w v G vs) (h1 : lo' ≤ lo) : OwnG lo' hi w v G vs :=
  ⟨h.hiW, h.len, own_low h.top h1, fun i u Z a b => own_low (h.row i u Z a b) h1, h.apart, h.inn, h.topIn, h.rowIn⟩
/-- a row whose block lies where nothing was written -/
theorem own_beside {w w' : World} {a b lo hi e size n : Nat} {v : Value} {xs : List Value} (h : w.ownsRow a e size v n xs) (hb : Beside lo hi w w') (hin : ∀ k, v.ownBlock = some k → k < b) (hd : b ≤ lo ∨ hi ≤ a) : w'.ownsRow a e size v n xs := by
  refine ⟨h.1, ?_⟩
  rcases h.2 with h1 | ⟨g, cap, cur, hv, hg, hc, r⟩
  · exact Or.inl h1
  · refine Or.inr ⟨g, cap, cur, hv, hg, ?_, r⟩
    have hg2 := hin g (by rw [hv]; rfl)
    rw [hb.block g (h.lt g (by rw [hv]; rfl)).2 (by omega)]; exact hc
theorem OwnG.beside {a b lo hi : Nat} {w w' : World} {v : Value} {G : List (List Int)} {vs : List Value} (h : OwnG a b w v G vs) (hb : Beside lo hi w w') (hd : b ≤ lo ∨ hi ≤ a) : OwnG a b w' v G vs :=
  ⟨Nat.le_trans h.hiW hb.size, h.len, own_beside h.top hb h.topIn hd, fun i u Z e1 e2 => own_beside (h.row i u Z e1 e2) hb (h.rowIn i u e1) hd, h.apart, h.inn, h.topIn, h.rowIn⟩
theorem OwnG.kept {a b : Nat} {w w' : World} {v : Value} {G : List (List Int)} {vs : List Value} (h : OwnG a b w v G vs) (hb : Below w.heap.size w w') : OwnG a b w' v G vs :=
  h.beside (lo := b) (hi := b) (.of_below hb) (Or.inl (Nat.le_refl _))
theorem OwnG.drewN {a b : Nat} {w : World} {v : Value} {G : List (List Int)} {vs : List Value} (h : OwnG a b w v G vs) (n : Nat) : OwnG a b (w.drewN n) v G vs := h.kept (belowN (Below.refl _ _) n)
theorem OwnG.at {a b : Nat} {w : World} {v : Value} {G : List (List Int)} {vs : List Value} (h : OwnG a b w v G vs) : GridAt w v G := by
  have h0 := h.top
  rcases h.top.2 with ⟨h1, h2⟩ | ⟨g, cap, cur, hv, hg, hb, hn, hcap, _, _⟩
  · have hZ : G = [] := List.eq_nil_of_length_eq_zero h2
    subst hZ
    exact ⟨none, 0, h1, Nat.le_refl 0, Or.inl rfl⟩
  · subst hv
    refine ⟨_, cap, rfl, hn, Or.inr ⟨g, 0, rfl, (h0.lt g rfl).2, fun i hi => ?_⟩⟩
    have hiv : i < vs.length := by rw [h.len]; exact hi
    refine ⟨vs[i], by rw [Nat.zero_add, h0.cellAt i (by omega), List.getElem?_eq_getElem hiv], ?_⟩
    exact ints_own (h.row i _ _ (List.getElem?_eq_getElem hiv) (List.getElem?_eq_getElem hi)) (h.inn _ (List.getElem_mem hi))
/-- the outer row's cell -/
theorem OwnG.cellAt {a b g n cap : Nat} {w : World} {G : List (List Int)} {vs : List Value} (h : OwnG a b w (.slice (some ⟨g, 0, none⟩) n cap) G vs) (hn : n = G.length) {i : Nat} (hi : i < n) : w.cell? ⟨g, i, none⟩ = vs[i]? := by
  subst hn; exact h.top.cellAt i (by omega)
/-- one row is laid anew: its block apart from all others' -/
theorem OwnG.put {lo hi k : Nat} {w w1 w2 : World} {v u : Value} {Z : List Int} {G : List (List Int)} {vs : List Value} (h : OwnG lo hi w v G vs) (hk : k < G.length) (hb : Below w.heap.size w w1) (hu : w1.ownsRow w.heap.size 2 1 u Z.length (Z.map encI)) (hz : ∀ n ∈ Z, inI n)
    (hg : w1.grownBy w2 v.ownBlock) (ht : w2.ownsRow lo 36 1 v G.length (vs.set k u)) (hlo : lo ≤ w.heap.size) (he : (2 : Nat) ≠ 36) : OwnG lo w2.heap.size w2 v (G.set k Z) (vs.set k u) := by
  have h1 := h.kept hb
  have hkv : k < vs.length := by rw [h.len]; exact hk
  have hz1 : w.heap.size ≤ w1.heap.size := hb.size
  have hz2 : w1.heap.size ≤ w2.heap.size := hg.size
  have hu2 : w2.ownsRow lo 2 1 u Z.length (Z.map encI) := (own_low hu hlo).kept hg (own_kind hu h1.top he)
  have hrow : ∀ (i : Nat) u' Z', i ≠ k → vs[i]? = some u' → G[i]? = some Z' → w2.ownsRow lo 2 1 u' Z'.length (Z'.map encI) := fun i u' Z' hi e1 e2 => (h1.row i u' Z' e1 e2).kept hg (own_kind (h1.row i u' Z' e1 e2) h1.top he)
  refine ⟨Nat.le_refl _, by simp [h.len], by simpa using ht, ?_, ?_, ?_, ?_, ?_⟩
  · intro i u' Z' e1 e2
    by_cases hik : i = k
    · subst hik
      rw [List.getElem?_set_self hkv] at e1
      rw [List.getElem?_set_self hk] at e2
      cases e1; cases e2
      exact hu2
    · rw [List.getElem?_set_ne (Ne.symm hik)] at e1 e2
      exact hrow i u' Z' hik e1 e2
  · intro i j u1 u2 hij e1 e2
    by_cases hik : i = k
    · subst hik
      rw [List.getElem?_set_self hkv] at e1
      rw [List.getElem?_set_ne hij] at e2
      cases e1
      cases e3 : u.ownBlock with
      | none => exact Or.inl rfl
      | some b =>
        right
        intro hh
        have := h.rowIn j u2 e2 b hh.symm
        have h3 := (hu.lt b e3).1
        have := h.hiW
        omega
    · rw [List.getElem?_set_ne (Ne.symm hik)] at e1
      by_cases hjk : j = k
      · subst hjk
        rw [List.getElem?_set_self hkv] at e2
        cases e2
        cases e3 : u1.ownBlock with
        | none => exact Or.inl rfl
        | some b =>
          right
          intro hh
          have := h.rowIn i u1 e1 b e3
          have h3 := (hu.lt b hh.symm).1
          have := h.hiW
          omega
      · rw [List.getElem?_set_ne (Ne.symm hjk)] at e2
        exact h.apart i j u1 u2 hij e1 e2
  · intro Z' hZ'
    rcases List.mem_or_eq_of_mem_set hZ' with h4 | rfl
    · exact h.inn Z' h4
    · exact hz
  · intro b hb2; exact Nat.lt_of_lt_of_le (h.topIn b hb2) (by have := h.hiW; omega)
  · intro i u' e1 b hb2
    by_cases hik : i = k
    · subst hik
      rw [List.getElem?_set_self hkv] at e1
      cases e1
      exact Nat.lt_of_lt_of_le (hu.lt b hb2).2 hz2
    · rw [List.getElem?_set_ne (Ne.symm hik)] at e1
      exact Nat.lt_of_lt_of_le (h.rowIn i u' e1 b hb2) (by have := h.hiW; omega)
/-- a new outer row, the first k rows of which are laid -/
def fillG (G : List (List Int)) (k : Nat) : List (List Int) := G.take k ++ List.replicate (G.length - k) []
theorem fillG_zero (G : List (List Int)) : fillG G 0 = List.replicate G.length [] := by simp [fillG]
theorem fillG_all (G : List (List Int)) : fillG G G.length = G := by simp [fillG]
theorem fillG_len (G : List (List Int)) (k : Nat) (h : k ≤ G.length) : (fillG G k).length = G.length := by simp [fillG]; omega
theorem fillG_set (G : List (List Int)) (k : Nat) (h : k < G.length) : (fillG G k).set k G[k] = fillG G (k + 1) := by
  unfold fillG
  have e : List.replicate (G.length - k) ([] : List Int) = [] :: List.replicate (G.length - (k + 1)) [] := by
    rw [show G.length - k = (G.length - (k + 1)) + 1 by omega, List.replicate_succ]
  have hl : (G.take k).length = k := by simp; omega
  rw [e, List.set_append_right _ _ (by rw [hl]; exact Nat.le_refl _), hl, Nat.sub_self, List.set_cons_zero, List.take_succ_eq_append_getElem h, List.append_assoc]
  rfl
theorem OwnG.made {lo n : Nat} {w : World} {v : Value} (h : w.ownsRow lo 36 1 v n (List.replicate n (.slice none 0 0))) : OwnG lo w.heap.size w v (List.replicate n []) (List.replicate n (.slice none 0 0)) := by
  have key : ∀ (i : Nat) u, (List.replicate n (Value.slice none 0 0))[i]? = some u → u = .slice none 0 0 := fun i u e => by
    rw [List.getElem?_replicate] at e; split at e <;> simp_all
  refine ⟨Nat.le_refl _, by simp, by simpa using h, ?_, ?_, ?_, fun b hb => (h.lt b hb).2, ?_⟩
  · intro i u Z e1 e2
    rw [key i u e1]
    rw [List.getElem?_replicate] at e2; split at e2
    · cases e2; exact World.ownsRow_nil _ _ _ _
    · cases e2
  · intro i j u u' _ e1 _
    rw [key i u e1]; exact Or.inl rfl
  · intro Z hZ n hn
    rw [List.eq_of_mem_replicate hZ] at hn; cases hn
  · intro i u e1 b hb
    rw [key i u e1] at hb; simp [Value.ownBlock] at hb
theorem obtainIn {w : World} {v : Value} {Z : List Int} (h : IntsAt w v Z) : ∀ n ∈ Z, inI n := by obtain ⟨_, _, _, _, h, _⟩ := h; exact h
def RowsG (G : List (List Int)) (w : World) (e : Ending) (w' : World) : Prop :=
  ∃ v vs, e = .returned v ∧ OwnG w.heap.size w'.heap.size w' v G vs ∧ Below w.heap.size w w'
theorem grid_inn {w : World} {v : Value} {G : List (List Int)} (h : GridAt w v G) : ∀ Z ∈ G, ∀ n ∈ Z, inI n := by
  intro Z hZ
  obtain ⟨a, cap, _, _, h4⟩ := h
  rcases h4 with rfl | ⟨g, o, _, _, hc⟩
  · cases hZ
  · obtain ⟨i, hi, rfl⟩ := List.mem_iff_getElem.1 hZ
    obtain ⟨u, _, hu⟩ := hc i hi
    obtain ⟨_, _, _, _, h, _⟩ := hu
    exact h
set_option maxHeartbeats 1600000 in
theorem toInt64SS_any (v : Value) (G : List (List Int)) (w : World) (hn : G.length + totL G ≤ 1048576) (hv : GridAt w v G) :
    Calls Try.prog 9 #[v] w (RowsG G w) := by
  obtain ⟨i0, hi, hz0, hz1, hz2⟩ := info_parts infoG
  obtain ⟨a, cap, rfl, hcap, hread⟩ := hv
  have hread' := Lib.hid hread
  have hn' := Lib.hid hn
  have hn2 : G.length ≤ 1048576 := by omega
  clear hread hn
  go_enter Try.func9, Try.ntmps9
  go_wp2_with (at_make; refine wpList_make_full _ rfl _ _ 22 rfl w.heap.size 36 i0 (.slice none 0 0) 1 Try.underlying22 hi hz0 hz1 .i64 .i64 _ _ G.length rfl rfl rfl rfl ?b1 ?b2 ?b3 ?_)
  case b1 => rw [hz2]; omega
  case b2 => unfold maxLen; omega
  case b3 => exact Nat.le_refl _
  intro w1 hown hgr
  rw [toList_madeCells_one] at hown
  have hb1 : Below w.heap.size w w1 := (Below.refl _ _).grown hgr (Nat.le_refl _) (fun k hk => by cases hk)
  have hO := OwnG.made hown
  rw [← fillG_zero] at hO
  clear hgr hown
  go_wp2
  go_loopw [4] (fun i wr => ∃ (k : Nat) (vs : List Value), k ≤ G.length ∧ i = .int .i64 k ∧ Hid (OwnG w.heap.size wr.heap.size wr (.slice (some ⟨w.heap.size, 0, none⟩) G.length G.length) (fillG G k) vs) ∧ Below w.heap.size w wr) (fun i _ => G.length - (intOf i).toNat)
  case atStart => exact ⟨0, _, by omega, rfl, Lib.hid hO, hb1⟩
  case round =>
    obtain ⟨k, vs, hk, rfl, ho, hbel⟩ := hrel
    by_cases hlt : k < G.length
    · rcases hread'.out with h | ⟨g, o, rfl, hg, hc⟩
      · subst h; simp at hlt
      · obtain ⟨u, hu, hZ⟩ := hc k hlt
        have hcx : wr.cell? ⟨g, o + k, none⟩ = some u := (hbel.cell (p := ⟨g, o + k, none⟩) hg).trans hu
        have hz2 := hZ.below hbel
        have hzl : G[k].length ≤ 1048576 := by have := totL_ge (List.getElem_mem hlt); have := hn'.out; omega
        have hfill := fillG_set G k hlt
        obtain ⟨Z, hZe⟩ : ∃ Z, Z = G[k] := ⟨_, rfl⟩
        rw [← hZe] at hz2 hzl hfill
        have hfl := fillG_len G k hk
        have hvl : k < vs.length := by rw [ho.out.len, hfl]; exact hlt
        obtain ⟨old, hold⟩ : ∃ old, vs[k]? = some old := ⟨_, List.getElem?_eq_getElem hvl⟩
        have key : Hid (∀ v2 w2, w2.ownsRow wr.heap.size 2 1 v2 Z.length (Z.map encI) → Below wr.heap.size wr w2 →
            w2.cell? ⟨w.heap.size, k, none⟩ = some old ∧ w2.frozen? ⟨w.heap.size, k, none⟩ = false ∧
            Hid (OwnG w.heap.size (w2.setCell ⟨w.heap.size, k, none⟩ v2).heap.size (w2.setCell ⟨w.heap.size, k, none⟩ v2) (.slice (some ⟨w.heap.size, 0, none⟩) G.length G.length) (fillG G (k + 1)) (vs.set k v2)) ∧ Hid (Below w.heap.size w (w2.setCell ⟨w.heap.size, k, none⟩ v2))) := Lib.hid (fun v2 w2 h1 h2 => by
          have ho2 := ho.out.kept h2
          have htp := ho2.top
          rw [hfl] at htp
          have hst := htp.stored k v2
          refine ⟨(ho2.cellAt hfl.symm hlt).trans hold, htp.frozenAt k, Lib.hid ?_, Lib.hid ((hbel.trans (h2.mono hbel.size)).setCell (p := ⟨w.heap.size, k, none⟩) (Nat.le_refl _) _)⟩
          rw [← hfill]
          exact ho.out.put (by rw [hfl]; exact hlt) h2 h1 (obtainIn hz2) hst.2 (by rw [hfl]; exact hst.1) hbel.size (by decide))
        have hz3 := Lib.hid hz2
        have hbel' := Lib.hid hbel
        clear hfill hZe hu hZ hc hz2 hold hfl
        go_wp2_with (go_at_call 27; refine (toInt64S_any _ Z _ hzl hz3.out).mono ?_; rintro e w2 ⟨v2, rfl, o2, b2⟩; obtain ⟨a2, c2, rfl⟩ := own_shape o2; obtain ⟨q1, q2, q3, q4⟩ := key.out _ w2 o2 b2; clear o2 b2)
        go_roundw
        case rel => exact ⟨k + 1, _, by omega, by go_num, q3, q4.out⟩
        case measure => simp [intOf]; omega
    · have hks : k = G.length := by omega
      have ho2 : Hid (OwnG w.heap.size wr.heap.size wr (.slice (some ⟨w.heap.size, 0, none⟩) G.length G.length) G vs) := Lib.hid (by have h2 := ho.out; rw [hks, fillG_all] at h2; exact h2)
      clear hks ho
      go_wp2
      go_ret
      exact ⟨_, vs, rfl, ho2.out, hbel⟩
end Go.Proofs.Ytmppaimcejcoiaa
