/-
  Texts that stand together: ListI, ReadMath, Read, CutMath, ReadList.
-/
import Derived.Lib.ParseIntBCases
import Derived.Lib.Strings
import Derived.Lib.Split
import Derived.Lib.IndexLaws
import Derived.Lib.IndexBytes
import Derived.Test.YtgfhjcbmilaegaaGreatDoorMg1
import Derived.Test.YtgfhjcbmilaegaaGreatDoorMg2
import Derived.Test.YtgfhjcbmilaegaaGreatDoorMg3
import Derived.Test.YtgfhjcbmilaegaaGreatDoorMg12
namespace Go.Proofs.YtgfhjcbmilaegaaGreatDoor
open Go.ChangeShapes Go.WideShapes Go.ChangeAt Go.RowKit Go.Sort
set_option linter.unusedVariables false
set_option linter.unusedSimpArgs false
theorem isValueV (n : Int) (w : World) : Calls Tryz.prog 52 #[.int .i64 n] w fun e w' => e = .returned (.bool (inV n)) ∧ w = w' := isValue_any _ _
/-- a new row of texts, k of which are laid -/
def fillS (L : List ByteArray) (k : Nat) : List Value := (L.take k).map Value.string ++ List.replicate (L.length - k) (.string ⟨#[]⟩)
theorem fillS_zero (L : List ByteArray) : fillS L 0 = List.replicate L.length (.string ⟨#[]⟩) := by simp [fillS]
theorem fillS_all (L : List ByteArray) : fillS L L.length = L.map Value.string := by simp [fillS]
theorem fillS_len (L : List ByteArray) (k : Nat) (h : k ≤ L.length) : (fillS L k).length = L.length := by simp [fillS]; omega
theorem fillS_set (L : List ByteArray) (k : Nat) (h : k < L.length) : (fillS L k).set k (.string L[k]) = fillS L (k + 1) := by
  unfold fillS
  have e : List.replicate (L.length - k) (Value.string ⟨#[]⟩) = Value.string ⟨#[]⟩ :: List.replicate (L.length - (k + 1)) (.string ⟨#[]⟩) := by
    rw [show L.length - k = (L.length - (k + 1)) + 1 by omega, List.replicate_succ]
  have hl : ((L.take k).map Value.string).length = k := by simp; omega
  rw [e, List.set_append_right _ _ (by rw [hl]; exact Nat.le_refl _), hl, Nat.sub_self, List.set_cons_zero, List.take_succ_eq_append_getElem h, List.map_append, List.append_assoc]
  rfl
def decs (Z : List Int) : List ByteArray := Z.map fun n => ⟨(Lib.itoa n).toArray⟩
theorem decs_len (Z : List Int) : (decs Z).length = Z.length := by simp [decs]
theorem decs_at (Z : List Int) (k : Nat) (h : k < Z.length) : (decs Z)[k]'(by rw [decs_len]; exact h) = ⟨(Lib.itoa Z[k]).toArray⟩ := by simp [decs]
theorem decs_data (Z : List Int) : (decs Z).map (·.data.toList) = Z.map Lib.itoa := by
  unfold decs; rw [List.map_map]; apply List.map_congr_left; intro n _; rfl

set_option maxHeartbeats 3200000 in
theorem implListText_any (v : Value) (Z : List Int) (w : World) (hn : Z.length ≤ 1048576) (hv : IntsAt w v Z) (hT : TabP w) :
    Calls Tryz.prog 39 #[v] w (StrRet (listR Z) w) := by
  obtain ⟨i0, hi, hz0, hz1, hz2⟩ := info_parts infoS
  obtain ⟨a, cap, rfl, hcap, hzz, hread⟩ := hv
  by_cases hze : Z.length = 0
  · have hZ : Z = [] := List.eq_nil_of_length_eq_zero hze
    subst hZ
    go_enter Tryz.func39, Tryz.ntmps39
    go_wp2
    go_ret
    exact ⟨rfl, Below.refl _ _⟩
  have h0 : ((Z.length : Int) == 0) = false := by rw [beq_eq_false_iff_ne]; omega
  by_cases hlong : Z.length ≤ 64
  rotate_left
  · have hr : Hid (listR Z = []) := Lib.hid (by unfold listR; rw [fits_long hlong]; rfl)
    have h1 : decide ((64 : Int) < (Z.length : Int)) = true := by simp; omega
    clear hread hzz hze
    go_enter Tryz.func39, Tryz.ntmps39
    go_wp2
    go_ret
    exact ⟨by rw [hr.out]; rfl, Below.refl _ _⟩
  have h1 : decide ((64 : Int) < (Z.length : Int)) = false := by simp; omega
  rcases hread with h | ⟨g, o, rfl, hg, hc⟩
  · subst h; exact absurd rfl hze
  have hc' := Lib.hid hc
  have hzz' := Lib.hid hzz
  clear hc hzz
  go_enter Tryz.func39, Tryz.ntmps39
  go_wp2_with (at_make; refine wpList_make_full _ rfl _ _ 76 rfl w.heap.size 9 i0 (.string ⟨#[]⟩) 1 Tryz.underlying76 hi hz0 hz1 .i64 .i64 _ _ Z.length rfl rfl rfl rfl ?b1 ?b2 ?b3 ?_)
  case b1 => rw [hz2]; omega
  case b2 => unfold maxLen; omega
  case b3 => exact Nat.le_refl _
  intro w1 hown hgr
  rw [toList_madeCells_one] at hown
  have hown0 : w1.ownsRow w.heap.size 9 1 (.slice (some ⟨w.heap.size, 0, none⟩) Z.length Z.length) Z.length (fillS (decs Z) 0) := by
    rw [fillS_zero, decs_len]; simpa using hown
  have hb1 : Below w.heap.size w w1 := (Below.refl _ _).grown hgr (Nat.le_refl _) (fun k hk => by cases hk)
  clear hgr hown
  go_wp2
  go_loopw [17] (fun i wr => ∃ k : Nat, k ≤ Z.length ∧ i = .int .i64 k ∧ wr.ownsRow w.heap.size 9 1 (.slice (some ⟨w.heap.size, 0, none⟩) Z.length Z.length) Z.length (fillS (decs Z) k) ∧ Below w.heap.size w wr ∧ Hid ((Z.take k).all inV = true)) (fun i _ => Z.length - (intOf i).toNat)
  case atStart => exact ⟨0, by omega, rfl, hown0, hb1, Lib.hid rfl⟩
  case round =>
    obtain ⟨k, hk, rfl, ho, hbel, hall⟩ := hrel
    have hsz := hbel.size
    by_cases hlt : k < Z.length
    · obtain ⟨z, hz⟩ : ∃ z, z = Z[k] := ⟨_, rfl⟩
      have hcx : wr.cell? ⟨g, o + k, none⟩ = some (.int .i64 z) := (hbel.cell (p := ⟨g, o + k, none⟩) hg).trans (by rw [hz]; exact hc'.out k hlt)
      have hz' := Lib.hid hz
      have hzi : inI z := hzz'.out z (by rw [hz]; exact List.getElem_mem _)
      clear hz
      cases hiv : inV z
      · have hr : Hid (listR Z = []) := Lib.hid (by unfold listR; rw [fits_bad (Z := Z) (n := z) (by rw [hz'.out]; exact List.getElem_mem _) hiv]; rfl)
        clear ho
        go_wp2_with (go_at_call 52; refine (isValueV _ _).mono ?_; rintro e w' ⟨rfl, rfl⟩)
        go_ret
        exact ⟨by rw [hr.out]; rfl, hbel⟩
      · have hs := Lib.hid (allZ_snoc hlt hall.out (by rw [← hz'.out]; exact hiv))
        obtain ⟨D, hD⟩ : ∃ D : ByteArray, D = ⟨(Lib.itoa z).toArray⟩ := ⟨_, rfl⟩
        have hcd2 : ∀ W, TabP W → Calls Tryz.prog 57 #[.int .i64 z] W fun e w' => e = .returned (.string D) ∧ Below W.heap.size W w' := fun W hW => by rw [hD]; exact implDecimal_any z hzi.1 hzi.2 W hW
        have hcd' := Lib.hid hcd2
        have hset : Hid ((fillS (decs Z) k).set k (.string D) = fillS (decs Z) (k + 1)) := Lib.hid (by
          rw [← fillS_set (decs Z) k (by rw [decs_len]; exact hlt), decs_at Z k hlt, ← hz'.out, hD])
        have ho' := Lib.hid ho
        clear hD hcd2 ho hzi
        go_wp2_with (go_at_call 52; refine (isValueV _ _).mono ?_; rintro e w' ⟨rfl, rfl⟩)
        refine (hcd'.out _ (hT.below hbel)).mono ?_
        rintro e w2 ⟨rfl, hb2⟩
        have hst := (own_kept ho'.out hb2).stored k (.string D)
        rw [hset.out] at hst
        have hco : ∃ old, w2.cell? ⟨w.heap.size, k, none⟩ = some old := by
          obtain ⟨old, hold⟩ : ∃ old, (fillS (decs Z) k)[k]? = some old := ⟨_, List.getElem?_eq_getElem (by rw [fillS_len _ _ (by rw [decs_len]; omega), decs_len]; exact hlt)⟩
          exact ⟨old, ((own_kept ho'.out hb2).cellAt k (by omega)).trans hold⟩
        obtain ⟨old, hco⟩ := hco
        have hfo := (own_kept ho'.out hb2).frozenAt k
        have hst' := Lib.hid hst
        have hbn := Lib.hid (hbel.trans (hb2.mono hsz))
        clear hst hb2
        go_wp2
        go_roundw
        case rel => exact ⟨k + 1, by omega, by go_num, hst'.out.1, hbn.out.grown hst'.out.2 hbn.out.size (fun j hj => by cases hj; exact Nat.le_refl _), hs⟩
        case measure => simp [intOf]; omega
    · have hks : k = Z.length := by omega
      have hfit : fitsZ Z = true := by
        rw [fits_all (Z := Z) (by have := hall.out; rw [hks, List.take_length] at this; exact this)]; simp; omega
      have hr : Hid (listR Z = Lib.join ((decs Z).map (·.data.toList)) [44]) := Lib.hid (by
        unfold listR textZ; rw [if_pos hfit, if_neg hze, decs_data])
      have ho2 : wr.ownsRow w.heap.size 9 1 (.slice (some ⟨w.heap.size, 0, none⟩) Z.length Z.length) Z.length ((decs Z).map Value.string) := by
        have h2 := ho; rw [hks, ← decs_len Z, fillS_all] at h2; rw [← decs_len Z]; exact h2
      have hlt2 := (ho2.lt w.heap.size rfl).2
      have hj := Tryz.strings_Join w.heap.size 0 Z.length (decs Z) ⟨#[44]⟩ wr (fun j x hx => by
        have hjl : j < Z.length := by
          have := (List.getElem?_eq_some_iff.1 hx).1; rw [decs_len] at this; exact this
        rw [Nat.zero_add, ho2.cellAt j (by omega), List.getElem?_map, hx]; rfl) hlt2 (by rw [decs_len]; omega) (by rw [decs_len]; omega) (by
        rw [decs_data]
        refine Nat.le_trans (join_le _ (fun x hx => ?_)) ?_
        · obtain ⟨n, hn, rfl⟩ := List.mem_map.1 hx
          exact itoa_len (hzz'.out n hn)
        · rw [List.length_map]; omega)
      rw [decs_len] at hj
      have hj' := Lib.hid hj
      clear hks hfit ho ho2 hj hlt2
      go_wp2_with fail
      refine hj'.out.mono ?_
      rintro e w3 ⟨rfl, hb3⟩
      have hb4 := hbel.trans (hb3.mono hsz)
      clear hb3
      go_wp2
      go_ret
      exact ⟨by rw [hr.out]; rfl, hb4⟩
end Go.Proofs.YtgfhjcbmilaegaaGreatDoor
namespace Go.Proofs.YtgfhjcbmilaegaaGreatDoor
def valF (acc : Nat) (l : List UInt8) : Nat := l.foldl (fun n c => 10 * n + (c.toNat - 48)) acc
theorem valF_nil (acc : Nat) : valF acc [] = acc := rfl
theorem valF_cons (acc : Nat) (c : UInt8) (l : List UInt8) : valF acc (c :: l) = valF (10 * acc + (c.toNat - 48)) l := by unfold valF; rw [List.foldl_cons]
theorem valF_snoc (acc : Nat) (l : List UInt8) (c : UInt8) : valF acc (l ++ [c]) = 10 * valF acc l + (c.toNat - 48) := by unfold valF; rw [List.foldl_append]; rfl
theorem db_iff (c : UInt8) : db c = true ↔ 48 ≤ c.toNat ∧ c.toNat ≤ 57 := by unfold db; rw [inB_iff]; omega
theorem valF_ge (l : List UInt8) : ∀ acc, acc ≤ valF acc l := by
  induction l with
  | nil => intro acc; exact Nat.le_refl _
  | cons c l ih => intro acc; rw [valF_cons]; have := ih (10 * acc + (c.toNat - 48)); omega
theorem valF_lt (l : List UInt8) (h : l.all db = true) : ∀ acc, valF acc l < (acc + 1) * 10 ^ l.length := by
  induction l with
  | nil => intro acc; rw [valF_nil]; simp
  | cons c l ih =>
    intro acc
    rw [List.all_cons, Bool.and_eq_true] at h
    have hc := (db_iff c).1 h.1
    rw [valF_cons]
    refine Nat.lt_of_lt_of_le (ih h.2 _) ?_
    rw [List.length_cons, Nat.pow_succ, Nat.mul_comm (10 ^ l.length) 10, ← Nat.mul_assoc]
    exact Nat.mul_le_mul_right _ (by omega)
theorem val_lt18 (l : List UInt8) (h : l.all db = true) (hl : l.length ≤ 18) : valF 0 l < 1000000000000000000 := by
  have h1 := valF_lt l h 0
  have h2 : 10 ^ l.length ≤ 10 ^ 18 := Nat.pow_le_pow_right (by omega) hl
  simp only [Nat.zero_add, Nat.one_mul] at h1
  omega
theorem digit_back (c : UInt8) (h : db c = true) : UInt8.ofNat (48 + (c.toNat - 48)) = c := by
  have := (db_iff c).1 h
  apply UInt8.toNat_inj.1
  rw [UInt8.toNat_ofNat']
  have := c.toNat_lt
  omega
theorem digs_val (n : Nat) : valF 0 (digsN n) = n := by
  induction n using Nat.strongRecOn with
  | _ n ih =>
    by_cases h : n = 0
    · subst h; rw [digsN_zero]; rfl
    · rw [digsN_pos n (by omega), valF_snoc, ih (n / 10) (by omega), UInt8.toNat_ofNat']; omega
theorem digs_all (n : Nat) : (digsN n).all db = true := by
  induction n using Nat.strongRecOn with
  | _ n ih =>
    by_cases h : n = 0
    · subst h; rw [digsN_zero]; rfl
    · rw [digsN_pos n (by omega), List.all_append, ih (n / 10) (by omega)]
      have : db (UInt8.ofNat (48 + n % 10)) = true := by rw [db_iff, UInt8.toNat_ofNat']; omega
      rw [List.all_cons, List.all_nil, this]; rfl
theorem headD_app (l m : List UInt8) (h : 0 < l.length) : (l ++ m).headD 0 = l.headD 0 := by
  cases l with
  | nil => simp at h
  | cons a t => rfl
theorem digs_head (n : Nat) (h : 0 < n) : (digsN n).headD 0 ≠ 48 := by
  induction n using Nat.strongRecOn with
  | _ n ih =>
    rw [digsN_pos n h]
    by_cases h1 : n / 10 = 0
    · rw [h1, digsN_zero]
      show UInt8.ofNat (48 + n % 10) ≠ 48
      intro e
      have e2 := congrArg UInt8.toNat e
      rw [UInt8.toNat_ofNat'] at e2
      have : (48 : UInt8).toNat = 48 := rfl
      omega
    · rw [headD_app _ _ (digsN_ne _ (by omega))]
      exact ih (n / 10) (by omega) (by omega)
theorem val_digs : ∀ (k : Nat) (b : List UInt8), b.length = k → b.all db = true → 0 < b.length → b.headD 0 ≠ 48 → digsN (valF 0 b) = b ∧ 0 < valF 0 b
  | 0, b, hk, _, hp, _ => by omega
  | k + 1, b, hk, ha, hp, hh => by
    obtain ⟨t, c, rfl⟩ : ∃ t c, b = t ++ [c] := ⟨b.dropLast, b.getLast (by intro e; subst e; simp at hp), (List.dropLast_concat_getLast _).symm⟩
    rw [List.all_append, Bool.and_eq_true] at ha
    have hc : db c = true := by simpa using ha.2
    have hcn := (db_iff c).1 hc
    rw [valF_snoc]
    by_cases ht : t.length = 0
    · have : t = [] := List.eq_nil_of_length_eq_zero ht
      subst this
      have hne : c ≠ 48 := hh
      have hne' : c.toNat ≠ 48 := fun e => hne (UInt8.toNat_inj.1 e)
      refine ⟨?_, by rw [valF_nil]; omega⟩
      rw [valF_nil, digsN_pos _ (by omega)]
      have e1 : (10 * 0 + (c.toNat - 48)) / 10 = 0 := by omega
      have e2 : (10 * 0 + (c.toNat - 48)) % 10 = c.toNat - 48 := by omega
      rw [e1, e2, digsN_zero, digit_back c hc]
    · rw [headD_app _ _ (by omega)] at hh
      have hlen : t.length = k := by simp at hk; exact hk
      obtain ⟨h1, h2⟩ := val_digs k t hlen ha.1 (by omega) hh
      refine ⟨?_, by omega⟩
      rw [digsN_pos _ (by omega)]
      have e1 : (10 * valF 0 t + (c.toNat - 48)) / 10 = valF 0 t := by omega
      have e2 : (10 * valF 0 t + (c.toNat - 48)) % 10 = c.toNat - 48 := by omega
      rw [e1, e2, h1, digit_back c hc]

def atD (l : List UInt8) : Nat := if l.headD 0 = 45 then 1 else 0
def badD (l : List UInt8) : Prop := (l.drop (atD l)).length = 0 ∨ 18 < (l.drop (atD l)).length ∨ ((l.drop (atD l)).headD 0 = 48 ∧ 1 < l.length) ∨ (l.drop (atD l)).all db = false
instance (l : List UInt8) : Decidable (badD l) := by unfold badD; infer_instance
/-- the number with a decimal form -/
def readD (l : List UInt8) : Option Int := if badD l then none else some (if l.headD 0 = 45 then -(valF 0 (l.drop (atD l)) : Int) else (valF 0 (l.drop (atD l)) : Int))
theorem readD_bad {l : List UInt8} (h : badD l) : readD l = none := by unfold readD; rw [if_pos h]

theorem parseM_digits (l : List UInt8) : ∀ acc, l.all db = true → valF acc l < 1000000000000000000 → Lib.parseUintM (2 ^ 64 - 1) acc l = .ok (valF acc l) := by
  induction l with
  | nil => intro acc _ _; rfl
  | cons c l ih =>
    intro acc h hv
    rw [List.all_cons, Bool.and_eq_true] at h
    have hc := (db_iff c).1 h.1
    rw [valF_cons] at hv ⊢
    have g := valF_ge l (10 * acc + (c.toNat - 48))
    unfold Lib.parseUintM
    rw [if_pos hc, if_neg (by omega), if_neg (by omega)]
    have e : acc * 10 + (c.toNat - 48) = 10 * acc + (c.toNat - 48) := by omega
    rw [e]
    exact ih _ h.2 hv
theorem parseU_digits (l : List UInt8) (h0 : 0 < l.length) (h : l.all db = true) (hl : l.length ≤ 18) : Lib.parseUintB 64 l = .ok (valF 0 l) := by
  unfold Lib.parseUintB
  rw [if_neg (by intro e; subst e; simp at h0)]
  exact parseM_digits l 0 h (val_lt18 l h hl)

/-- what is read has this text, and the library reads it alike -/
theorem readD_some {l : List UInt8} {n : Int} (h : readD l = some n) : Lib.itoa n = l ∧ Lib.parseIntB 64 l = .ok n := by
  unfold readD at h
  split at h
  · cases h
  · rename_i hb
    have hb' := hb
    unfold badD at hb'
    simp only [not_or, Nat.not_lt] at hb'
    obtain ⟨b1, b2, b3, b4⟩ := hb'
    have ha : (l.drop (atD l)).all db = true := by simpa using b4
    have hv := val_lt18 _ ha b2
    by_cases hneg : l.headD 0 = 45
    · rw [if_pos hneg] at h
      have hat : atD l = 1 := by unfold atD; rw [if_pos hneg]
      rw [hat] at h b1 b2 b3 ha hv
      cases l with
      | nil => simp at b1
      | cons c r =>
        have hc : c = 45 := hneg
        subst hc
        simp only [List.drop_succ_cons, List.drop_zero] at h b1 b2 b3 ha hv
        have hh : r.headD 0 ≠ 48 := fun e => b3 ⟨e, by simp only [List.length_cons]; omega⟩
        obtain ⟨d1, d2⟩ := val_digs _ r rfl ha (by omega) hh
        cases h
        refine ⟨?_, ?_⟩
        · rw [itoa_negp _ d2, d1]
        · rw [Lib.parseIntB_minus, parseU_digits r (by omega) ha b2]
          unfold Lib.signedC
          simp only
          rw [if_neg (by omega)]
    · rw [if_neg hneg] at h
      have hat : atD l = 0 := by unfold atD; rw [if_neg hneg]
      rw [hat, List.drop_zero] at h b1 b2 b3 ha hv
      cases h
      have hp : Lib.parseIntB 64 l = .ok (valF 0 l : Int) := by
        cases l with
        | nil => simp at b1
        | cons c r =>
          have hcd : db c = true := by rw [List.all_cons, Bool.and_eq_true] at ha; exact ha.1
          have hcn := (db_iff c).1 hcd
          rw [Lib.parseIntB_plain 64 c r (by omega) (by omega), parseU_digits (c :: r) (by simp) ha b2]
          unfold Lib.signlessC
          simp only
          rw [if_neg (by omega)]
      refine ⟨?_, hp⟩
      by_cases hh : l.headD 0 = 48
      · have hl1 : l.length = 1 := by
          have : ¬ 1 < l.length := fun e => b3 ⟨hh, e⟩
          omega
        obtain ⟨c, rfl⟩ := List.length_eq_one_iff.1 hl1
        have hc : c = 48 := hh
        subst hc
        exact itoa_zero
      · obtain ⟨d1, d2⟩ := val_digs _ l rfl ha (by omega) hh
        rw [itoa_pos _ d2, d1]
theorem itoa_parts (n : Int) : (Lib.itoa n).headD 0 = 45 ∧ n < 0 ∧ (Lib.itoa n) = 45 :: digsN n.natAbs ∨ 0 ≤ n ∧ (Lib.itoa n).headD 0 ≠ 45 := by
  rcases Int.lt_trichotomy n 0 with h | h | h
  · left
    obtain ⟨N, rfl⟩ : ∃ N : Nat, n = -(N : Int) := ⟨n.natAbs, by omega⟩
    rw [itoa_negp N (by omega), Int.natAbs_neg, Int.natAbs_natCast]
    exact ⟨rfl, h, rfl⟩
  · right; subst h; rw [itoa_zero]; exact ⟨by omega, by decide⟩
  · right
    obtain ⟨N, rfl⟩ := Int.eq_ofNat_of_zero_le (Int.le_of_lt h)
    refine ⟨by omega, ?_⟩
    rw [itoa_pos N (by omega)]
    have ha := digs_all N
    have hp := digsN_ne N (by omega)
    cases e : digsN N with
    | nil => rw [e] at hp; simp at hp
    | cons c r =>
      rw [e, List.all_cons, Bool.and_eq_true] at ha
      have := (db_iff c).1 ha.1
      show c ≠ 45
      intro h45; subst h45
      have : (45 : UInt8).toNat = 45 := rfl
      omega
/-- a decimal text that is not too long is read -/
theorem readD_itoa (n : Int) (hl : ((Lib.itoa n).drop (atD (Lib.itoa n))).length ≤ 18) : readD (Lib.itoa n) = some n := by
  rcases itoa_parts n with ⟨hh, hn, e⟩ | ⟨hn, hh⟩
  · have hat : atD (Lib.itoa n) = 1 := by unfold atD; rw [if_pos hh]
    have hN : 0 < n.natAbs := by omega
    have hd : (Lib.itoa n).drop (atD (Lib.itoa n)) = digsN n.natAbs := by rw [hat, e]; rfl
    unfold readD
    rw [if_neg, if_pos hh, hd, digs_val]
    · congr 1; omega
    · unfold badD
      rw [hd] at hl ⊢
      have h1 := digsN_ne n.natAbs hN
      have h2 := digs_head n.natAbs hN
      have h3 := digs_all n.natAbs
      simp only [not_or, Nat.not_lt]
      refine ⟨by omega, hl, fun h => h2 h.1, by rw [h3]; decide⟩
  · have hat : atD (Lib.itoa n) = 0 := by unfold atD; rw [if_neg hh]
    rw [hat, List.drop_zero] at hl
    unfold readD
    rw [if_neg, if_neg hh, hat, List.drop_zero]
    · rcases Int.lt_or_eq_of_le hn with h | h
      · obtain ⟨N, rfl⟩ := Int.eq_ofNat_of_zero_le hn
        rw [itoa_pos N (by omega), digs_val]
      · rw [← h, itoa_zero]; rfl
    · unfold badD
      rw [hat, List.drop_zero]
      rcases Int.lt_or_eq_of_le hn with h | h
      · obtain ⟨N, rfl⟩ := Int.eq_ofNat_of_zero_le hn
        rw [itoa_pos N (by omega)] at hl ⊢
        have h1 := digsN_ne N (by omega)
        have h2 := digs_head N (by omega)
        have h3 := digs_all N
        simp only [not_or, Nat.not_lt]
        refine ⟨by omega, hl, fun h => h2 h.1, by rw [h3]; decide⟩
      · rw [← h, itoa_zero]; decide
theorem trim_at (l : List UInt8) : Lib.trimPrefix l [45] = l.drop (atD l) := by
  unfold Lib.trimPrefix Lib.hasPrefix atD
  cases l with
  | nil => rfl
  | cons c r =>
    by_cases h : c = 45
    · subst h; simp
    · have : ([45] : List UInt8).isPrefixOf (c :: r) = false := by simp [List.isPrefixOf]; exact fun e => h e.symm
      simp [this, h]
end Go.Proofs.YtgfhjcbmilaegaaGreatDoor
namespace Go.Proofs.YtgfhjcbmilaegaaGreatDoor
open Go.ChangeShapes Go.WideShapes Go.ChangeAt Go.RowKit
set_option linter.unusedVariables false
set_option linter.unusedSimpArgs false

theorem digit_any (c : UInt8) (w : World) : Calls Tryz.prog 96 #[.int .u8 c.toNat] w fun e w' => e = .returned (.bool (db c)) ∧ w = w' := by
  by_cases h1 : (48 : Int) ≤ c.toNat <;> by_cases h2 : (c.toNat : Int) ≤ 57
  all_goals
    go_enter Tryz.func96, Tryz.ntmps96
    go_wp2
    go_ret
    exact ⟨ret_bool (by rw [← db_of]; unfold inB; simp [h1, h2]), rfl⟩
/-- number and true, or 0 and false -/
def optV (o : Option Int) : Value := match o with | none => .tuple #[.int .i64 0, .bool false] | some n => .tuple #[.int .i64 n, .bool true]
theorem at_cases (s : ByteArray) : (s.data.toList.headD 0 = 45 ∧ atD s.data.toList = 1) ∨ (s.data.toList.headD 0 ≠ 45 ∧ atD s.data.toList = 0) := by
  unfold atD
  by_cases h : s.data.toList.headD 0 = 45
  · left; exact ⟨h, by rw [if_pos h]⟩
  · right; exact ⟨h, by rw [if_neg h]⟩
theorem drop_len (s : ByteArray) (a : Nat) : (s.data.toList.drop a).length = s.size - a := by rw [List.length_drop, len_data]
theorem drop_head (s : ByteArray) (a : Nat) (h : a < s.size) : (s.data.toList.drop a).headD 0 = s[a] := by
  have hl : a < s.data.toList.length := by rw [len_data]; exact h
  rw [List.drop_eq_getElem_cons hl]; rfl
theorem drop_take_snoc (s : ByteArray) (a k : Nat) (h : a ≤ k) (hk : k < s.size) : (s.data.toList.drop a).take (k + 1 - a) = (s.data.toList.drop a).take (k - a) ++ [s[k]] := piece_snoc s a k h hk
theorem drop_take_all (s : ByteArray) (a : Nat) : (s.data.toList.drop a).take (s.size - a) = s.data.toList.drop a := by
  rw [List.take_of_length_le]; rw [drop_len]; exact Nat.le_refl _
theorem take_all_of {l : List UInt8} {k : Nat} (h : l.all db = true) : (l.take k).all db = true := by
  rw [List.all_eq_true] at h ⊢
  exact fun x hx => h x (List.mem_of_mem_take hx)
theorem drop_fail (s : ByteArray) (a k : Nat) (h : a ≤ k) (hk : k < s.size) (hc : db s[k] = false) : (s.data.toList.drop a).all db = false := by
  refine all_fail (c := s[k]) ?_ hc
  have hl : k - a < (s.data.toList.drop a).length := by rw [drop_len]; omega
  have e : s[k] = (s.data.toList.drop a)[k - a] := by
    rw [List.getElem_drop]
    have : a + (k - a) = k := by omega
    simp only [this]; rfl
  rw [e]; exact List.getElem_mem _

/-- behind the sign: the digits are read one by one -/
def numAt (s : ByteArray) (a k m : Nat) : Prop := ((s.data.toList.drop a).take (k - a)).all db = true ∧ m = valF 0 ((s.data.toList.drop a).take (k - a))
theorem numAt_start (s : ByteArray) (a : Nat) : numAt s a a 0 := by unfold numAt; rw [Nat.sub_self]; exact ⟨rfl, rfl⟩
theorem numAt_step {s : ByteArray} {a k m : Nat} (h : numAt s a k m) (ha : a ≤ k) (hk : k < s.size) (hc : db s[k] = true) : numAt s a (k + 1) (10 * m + (s[k].toNat - 48)) := by
  unfold numAt at h ⊢
  rw [drop_take_snoc s a k ha hk, valF_snoc, ← h.2]
  exact ⟨all_snoc h.1 hc, rfl⟩
theorem numAt_lt {s : ByteArray} {a k m : Nat} (h : numAt s a k m) (hl : k - a ≤ 18) : m < 1000000000000000000 := by
  rw [h.2]
  exact val_lt18 _ h.1 (Nat.le_trans (List.length_take_le _ _) hl)
theorem numAt_lt17 {s : ByteArray} {a k m : Nat} (h : numAt s a k m) (hl : k - a ≤ 17) : m < 100000000000000000 := by
  rw [h.2]
  have h1 := valF_lt _ h.1 0
  have h2 : ((s.data.toList.drop a).take (k - a)).length ≤ 17 := Nat.le_trans (List.length_take_le _ _) hl
  have h3 : 10 ^ ((s.data.toList.drop a).take (k - a)).length ≤ 10 ^ 17 := Nat.pow_le_pow_right (by omega) h2
  simp only [Nat.zero_add, Nat.one_mul] at h1
  omega
theorem numAt_end {s : ByteArray} {a m : Nat} (h : numAt s a s.size m) : (s.data.toList.drop a).all db = true ∧ m = valF 0 (s.data.toList.drop a) := by
  unfold numAt at h; rw [drop_take_all] at h; exact h

end Go.Proofs.YtgfhjcbmilaegaaGreatDoor
namespace Go.Proofs.YtgfhjcbmilaegaaGreatDoor
theorem fold_out (b : UInt8) (r : List UInt8) : ∀ (out : List (List UInt8)) (cur : List UInt8), r.foldl (splitStep b) (out, cur) = (out ++ (r.foldl (splitStep b) ([], cur)).1, (r.foldl (splitStep b) ([], cur)).2) := by
  induction r with
  | nil => intro out cur; simp
  | cons c r ih =>
    intro out cur
    rw [List.foldl_cons, List.foldl_cons]
    by_cases h : c = b
    · have e : ∀ o u, splitStep b (o, u) c = (o ++ [u], []) := fun o u => by unfold splitStep; rw [if_pos h]
      rw [e, e, ih (out ++ [cur]) [], ih ([] ++ [cur]) []]
      simp
    · have e : ∀ o u, splitStep b (o, u) c = (o, u ++ [c]) := fun o u => by unfold splitStep; rw [if_neg h]
      rw [e, e, ih out (cur ++ [c])]
theorem splitL_miss (b : UInt8) (l : List UInt8) (h : ∀ c ∈ l, c ≠ b) : splitL b l = [l] := by
  have := splitSt_more b [] l h
  rw [List.nil_append] at this
  unfold splitL; rw [this]; rfl
theorem splitL_hit (b : UInt8) (x r : List UInt8) (h : ∀ c ∈ x, c ≠ b) : splitL b (x ++ b :: r) = x :: splitL b r := by
  have h1 := splitSt_more b [] x h
  rw [List.nil_append] at h1
  have h2 : splitSt b (x ++ [b]) = ([x], []) := by rw [splitSt_hit b x b rfl, h1]; rfl
  have h3 : splitSt b (x ++ b :: r) = ([x] ++ (splitSt b r).1, (splitSt b r).2) := by
    have e : x ++ b :: r = (x ++ [b]) ++ r := by simp
    rw [e]
    unfold splitSt at h2 ⊢
    rw [List.foldl_append, h2, fold_out]
  unfold splitL; rw [h3]; rfl
theorem idx_none (b : UInt8) (l : List UInt8) (h : Lib.index l [b] = -1) : ∀ c ∈ l, c ≠ b := by
  rw [Lib.index_one] at h
  intro c hc e
  obtain ⟨k, hk, hkc⟩ := List.mem_iff_getElem.1 hc
  exact Lib.indexByte_none h k (by rw [List.getElem?_eq_getElem hk, hkc, e])
theorem idx_some (b : UInt8) (l : List UInt8) (i : Nat) (h : Lib.index l [b] = i) : l = l.take i ++ b :: l.drop (i + 1) ∧ ∀ c ∈ l.take i, c ≠ b := by
  rw [Lib.index_one] at h
  obtain ⟨h1, h2⟩ := Lib.indexByte_some h
  obtain ⟨hi, hib⟩ := List.getElem?_eq_some_iff.1 h1
  refine ⟨?_, fun c hc e => ?_⟩
  · conv => lhs; rw [← List.take_append_drop i l]
    rw [List.drop_eq_getElem_cons hi, hib]
  · obtain ⟨k, hk, hkc⟩ := List.mem_iff_getElem.1 hc
    rw [List.length_take] at hk
    rw [List.getElem_take] at hkc
    exact h2 k (by omega) (by rw [List.getElem?_eq_getElem (by omega), hkc, e])
theorem splitL_pos' (b : UInt8) (l : List UInt8) : 0 < (splitL b l).length := by unfold splitL; simp
/-- up to k cuts: all parts if there are no more than k + 1, else k + 1 parts -/
theorem splitK_all (b : UInt8) : ∀ (k : Nat) (l : List UInt8), (splitL b l).length ≤ k + 1 → Lib.splitK [b] 0 k l = splitL b l
  | 0, l, h => by
    by_cases hi : Lib.index l [b] = -1
    · rw [splitL_miss b l (idx_none b l hi)]; rfl
    · obtain ⟨i, hi'⟩ : ∃ i : Nat, Lib.index l [b] = i := ⟨(Lib.index l [b]).toNat, by have := Lib.index_ge l [b]; omega⟩
      obtain ⟨e, hx⟩ := idx_some b l i hi'
      rw [e, splitL_hit b _ _ hx, List.length_cons] at h
      have := splitL_pos' b (l.drop (i + 1))
      omega
  | k + 1, l, h => by
    by_cases hi : Lib.index l [b] = -1
    · rw [splitL_miss b l (idx_none b l hi)]
      unfold Lib.splitK; rw [if_pos (by rw [hi]; rfl)]
    · obtain ⟨i, hi'⟩ : ∃ i : Nat, Lib.index l [b] = i := ⟨(Lib.index l [b]).toNat, by have := Lib.index_ge l [b]; omega⟩
      obtain ⟨e, hx⟩ := idx_some b l i hi'
      have hs : splitL b l = l.take i :: splitL b (l.drop (i + 1)) := by
        conv => lhs; rw [e]
        rw [splitL_hit b _ _ hx]
      rw [hs, List.length_cons] at h
      rw [hs]
      unfold Lib.splitK
      rw [if_neg (by rw [hi']; simp), hi', splitK_all b k _ (by simp only [Int.toNat_natCast, List.length_singleton]; omega)]
      simp
theorem splitK_long (b : UInt8) : ∀ (k : Nat) (l : List UInt8), k + 1 ≤ (splitL b l).length → (Lib.splitK [b] 0 k l).length = k + 1
  | 0, l, _ => rfl
  | k + 1, l, h => by
    by_cases hi : Lib.index l [b] = -1
    · rw [splitL_miss b l (idx_none b l hi)] at h; simp at h
    · obtain ⟨i, hi'⟩ : ∃ i : Nat, Lib.index l [b] = i := ⟨(Lib.index l [b]).toNat, by have := Lib.index_ge l [b]; omega⟩
      obtain ⟨e, hx⟩ := idx_some b l i hi'
      have hs : splitL b l = l.take i :: splitL b (l.drop (i + 1)) := by
        conv => lhs; rw [e]
        rw [splitL_hit b _ _ hx]
      rw [hs, List.length_cons] at h
      unfold Lib.splitK
      rw [if_neg (by rw [hi']; simp), hi', List.length_cons, splitK_long b k _ (by simp only [Int.toNat_natCast, List.length_singleton]; omega)]

theorem part_len (b : UInt8) : ∀ (n : Nat) (l : List UInt8), l.length ≤ n → ∀ p ∈ splitL b l, p.length ≤ l.length := by
  intro n
  induction n with
  | zero =>
    intro l hl p hp
    have : l = [] := List.eq_nil_of_length_eq_zero (by omega)
    subst this
    have e : splitL b [] = [[]] := rfl
    rw [e] at hp
    simp at hp; subst hp; exact Nat.le_refl 0
  | succ n ih =>
    intro l hl p hp
    by_cases hi : Lib.index l [b] = -1
    · rw [splitL_miss b l (idx_none b l hi)] at hp
      simp at hp; subst hp; exact Nat.le_refl _
    · obtain ⟨i, hi'⟩ : ∃ i : Nat, Lib.index l [b] = i := ⟨(Lib.index l [b]).toNat, by have := Lib.index_ge l [b]; omega⟩
      obtain ⟨e, hx⟩ := idx_some b l i hi'
      have hs : splitL b l = l.take i :: splitL b (l.drop (i + 1)) := by
        conv => lhs; rw [e]
        rw [splitL_hit b _ _ hx]
      have hpos : 0 < l.length := by rw [e]; simp; omega
      rw [hs] at hp
      rcases List.mem_cons.1 hp with h | h
      · subst h; rw [List.length_take]; omega
      · have := ih (l.drop (i + 1)) (by rw [List.length_drop]; omega) p h
        rw [List.length_drop] at this; omega
/-- a part's number, if it is one and in its limits -/
def rv (p : List UInt8) : Option Int := match readD p with | some n => if inV n then some n else none | none => none
def readParts : List (List UInt8) → Option (List Int)
  | [] => some []
  | p :: r => match rv p with | none => none | some n => (readParts r).map (n :: ·)
theorem readParts_bad {P : List (List UInt8)} {p : List UInt8} (h : p ∈ P) (hp : rv p = none) : readParts P = none := by
  induction P with
  | nil => cases h
  | cons q r ih =>
    unfold readParts
    rcases List.mem_cons.1 h with e | e
    · rw [← e, hp]
    · cases rv q with
      | none => rfl
      | some n => simp only; rw [ih e]; rfl
theorem readParts_snoc {P : List (List UInt8)} {Z : List Int} {p : List UInt8} {n : Int} (h : readParts P = some Z) (hp : rv p = some n) : readParts (P ++ [p]) = some (Z ++ [n]) := by
  induction P generalizing Z with
  | nil => cases h; simp [readParts, hp]
  | cons q r ih =>
    unfold readParts at h
    rw [List.cons_append]
    unfold readParts
    cases hq : rv q with
    | none => rw [hq] at h; cases h
    | some m =>
      rw [hq] at h
      simp only at h ⊢
      cases hr : readParts r with
      | none => rw [hr] at h; cases h
      | some Y =>
        rw [hr] at h
        rw [ih hr]
        cases h; rfl
theorem readParts_take {P : List (List UInt8)} {k : Nat} {Z : List Int} {n : Int} (hk : k < P.length) (h : readParts (P.take k) = some Z) (hp : rv P[k] = some n) : readParts (P.take (k + 1)) = some (Z ++ [n]) := by
  rw [List.take_succ_eq_append_getElem hk]; exact readParts_snoc h hp
def readL (l : List UInt8) : Option (List Int) := if l = [45] then some [] else if 64 < (splitL 44 l).length then none else readParts (splitL 44 l)
theorem rv_in {p : List UInt8} {n : Int} (h : rv p = some n) : -1000000000000 ≤ n ∧ n ≤ 1000000000000 := by
  unfold rv at h
  cases hr : readD p with
  | none => rw [hr] at h; cases h
  | some m =>
    rw [hr] at h
    simp only at h
    split at h
    · rename_i hv; cases h; exact inB_iff.1 hv
    · cases h
theorem readD_of_rv {p : List UInt8} {n : Int} (h : rv p = some n) : readD p = some n ∧ inV n = true := by
  unfold rv at h
  cases hr : readD p with
  | none => rw [hr] at h; cases h
  | some m =>
    rw [hr] at h
    simp only at h
    split at h
    · rename_i hv; cases h; exact ⟨rfl, hv⟩
    · cases h
theorem readD_no {p : List UInt8} (h : rv p = none) : readD p = none ∨ ∃ n, readD p = some n ∧ inV n = false := by
  unfold rv at h
  cases hr : readD p with
  | none => exact Or.inl rfl
  | some m =>
    rw [hr] at h
    simp only at h
    split at h
    · cases h
    · rename_i hv; exact Or.inr ⟨m, rfl, by simpa using hv⟩
theorem readParts_in : ∀ {P : List (List UInt8)} {Z : List Int}, readParts P = some Z → ∀ n ∈ Z, -1000000000000 ≤ n ∧ n ≤ 1000000000000
  | [], Z, h, n, hn => by cases h; cases hn
  | p :: r, Z, h, n, hn => by
    unfold readParts at h
    cases hp : rv p with
    | none => rw [hp] at h; cases h
    | some m =>
      rw [hp] at h
      simp only at h
      cases hr : readParts r with
      | none => rw [hr] at h; cases h
      | some Y =>
        rw [hr] at h
        cases h
        rcases List.mem_cons.1 hn with e | e
        · subst e; exact rv_in hp
        · exact readParts_in hr n e
theorem readParts_len : ∀ {P : List (List UInt8)} {Z : List Int}, readParts P = some Z → Z.length = P.length
  | [], Z, h => by cases h; rfl
  | p :: r, Z, h => by
    unfold readParts at h
    cases hp : rv p with
    | none => rw [hp] at h; cases h
    | some m =>
      rw [hp] at h
      simp only at h
      cases hr : readParts r with
      | none => rw [hr] at h; cases h
      | some Y =>
        rw [hr] at h
        cases h
        rw [List.length_cons, List.length_cons, readParts_len hr]
end Go.Proofs.YtgfhjcbmilaegaaGreatDoor
namespace Go.Proofs.YtgfhjcbmilaegaaGreatDoor
open Go.ChangeShapes Go.WideShapes Go.ChangeAt Go.RowKit
set_option linter.unusedVariables false
set_option linter.unusedSimpArgs false
theorem rl_l00InV (n : Int) (w : World) : Calls Tryz.prog 59 #[.int .i64 n, .int .i64 (-1000000000000), .int .i64 1000000000000] w fun e w' => e = .returned (.bool (inV n)) ∧ w = w' := l00In_any _ _ _ _
/-- a row of numbers and true, or no row and false -/
def LRet (o : Option (List Int)) (w : World) (e : Ending) (w' : World) : Prop :=
  match o with
  | none => e = .returned (.tuple #[.slice none 0 0, .bool false]) ∧ Below w.heap.size w w'
  | some Z => ∃ v, e = .returned (.tuple #[v, .bool true]) ∧ w'.ownsRow w.heap.size 2 1 v Z.length (Z.map encI) ∧ Below w.heap.size w w'
theorem is_dash (s : ByteArray) (h : s.data.toList = [45]) : s = ⟨#[45]⟩ := bytes_of s _ h
theorem no_dash (s : ByteArray) (h : s.data.toList ≠ [45]) : (s.toList == [45]) = false := by
  rw [ByteArray.toList_eq, beq_eq_false_iff_ne]; exact h

end Go.Proofs.YtgfhjcbmilaegaaGreatDoor
