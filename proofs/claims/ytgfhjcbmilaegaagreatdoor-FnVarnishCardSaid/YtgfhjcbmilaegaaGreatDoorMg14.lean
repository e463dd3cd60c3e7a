/-
  Texts that stand together: ReadI, ReadListI, ReadNum, Pad.
-/
import Derived.Lib.ParseIntBTie
import Derived.Lib.AtoiErrMem
import Derived.Shelf.Strconv.ErrVarParseInt
import Derived.ChangeAgain
import Derived.Test.YtgfhjcbmilaegaaGreatDoorMg2
import Derived.Test.YtgfhjcbmilaegaaGreatDoorMg12
import Derived.Test.YtgfhjcbmilaegaaGreatDoorMg13
namespace Go.Proofs.YtgfhjcbmilaegaaGreatDoor
open Go.ChangeShapes Go.WideShapes Go.ChangeAt Go.RowKit Go.Sort
set_option linter.unusedVariables false
set_option linter.unusedSimpArgs false
/-- the library's two errors are there -/
def ErrsAt (w : World) : Prop := ∃ tp p tq q, w.var? Tryz.prog "strconv.ErrSyntax" = some #[.iface tp p] ∧ w.var? Tryz.prog "strconv.ErrRange" = some #[.iface tq q]
theorem ErrsAt.below {w w' : World} (h : ErrsAt w) (hb : Below w.heap.size w w') : ErrsAt w' := by
  obtain ⟨tp, p, tq, q, h1, h2⟩ := h
  exact ⟨tp, p, tq, q, var_below hb h1, var_below hb h2⟩
theorem parse_ok (s : ByteArray) (hs : s.size ≤ 1048576) (v : Int) (h : Lib.parseIntB 64 s.data.toList = .ok v) (w : World) :
    Calls Tryz.prog 73 #[.string s, .int .i64 10, .int .i64 64] w fun e w' => e = .returned (.tuple #[.int .i64 v, .nilIface]) ∧ Below w.heap.size w w' :=
  (Any.strconv_ParseInt_10_at64_ok Tryz.laysC174 s (by omega) v h w).mono fun e w' ⟨he, hw⟩ => ⟨he, by
    rcases hw with rfl | ⟨t, rfl⟩
    · exact Below.refl _ _
    · exact Lib.bytesWorld_below _ _ _⟩
theorem parse_bad (s : ByteArray) (hs : s.size ≤ 1048576) (h : ∀ v, Lib.parseIntB 64 s.data.toList ≠ .ok v) (w : World) (hE : ErrsAt w) :
    Calls Tryz.prog 73 #[.string s, .int .i64 10, .int .i64 64] w fun e w' => ∃ (n : Int) (t : TypeId) (N : Nat), e = .returned (.tuple #[.int .i64 n, .iface t (.pointer (some ⟨N, 0, none⟩))]) ∧ Below w.heap.size w w' := by
  obtain ⟨tp, p, tq, q, h1, h2⟩ := hE
  cases hp : Lib.parseIntB 64 s.data.toList with
  | ok v => exact absurd hp (h v)
  | _ =>
    first
    | exact (Any.strconv_ParseInt_10_at64_syntax_var Tryz.laysC174 s (by omega) hp tp p w h1).mono fun e w' ⟨N, he, _, _, hb⟩ => ⟨_, _, N, he, hb⟩
    | exact (Any.strconv_ParseInt_10_at64_range_var Tryz.laysC174 s (by omega) hp tq q w h2).mono fun e w' ⟨N, he, _, _, hb⟩ => ⟨_, _, N, he, hb⟩

theorem trim_any (s : ByteArray) (w : World) : Calls Tryz.prog 72 #[.string s, .string ⟨#[45]⟩] w fun e w' => (∃ S : ByteArray, e = .returned (.string S) ∧ S.size = (s.data.toList.drop (atD s.data.toList)).length) ∧ w = w' :=
  (Tryz.strings_TrimPrefix s ⟨#[45]⟩ w).mono fun e w' ⟨he, hw⟩ => ⟨⟨_, he, by
    show (Lib.trimPrefix s.data.toList [45]).toArray.size = _
    rw [trim_at, List.size_toArray]⟩, hw.symm⟩

set_option maxHeartbeats 1600000 in
theorem implReadDecimal_any (s : ByteArray) (w : World) (hs : s.size ≤ 1048576) (hT : TabP w) (hE : ErrsAt w) :
    Calls Tryz.prog 56 #[.string s] w fun e w' => e = .returned (optV (readD s.data.toList)) ∧ Below w.heap.size w w' := by
  obtain ⟨M, hM⟩ : ∃ M, M = (s.data.toList.drop (atD s.data.toList)).length := ⟨_, rfl⟩
  have hct := trim_any s w
  rw [← hM] at hct
  have hM' := Lib.hid hM
  clear hM
  by_cases hlong : 18 < M
  · have hr : Hid (optV (readD s.data.toList) = .tuple #[.int .i64 0, .bool false]) := Lib.hid (by rw [readD_bad (Or.inr (Or.inl (by rw [← hM'.out]; exact hlong)))]; rfl)
    go_enter Tryz.func56, Tryz.ntmps56
    go_wp2_with (go_at_call 72; refine hct.mono ?_; rintro e w' ⟨⟨S, rfl, hS⟩, rfl⟩; have hS18 : 18 < S.size := (by omega); clear hS)
    go_ret2
    exact ⟨congrArg Ending.returned hr.out.symm, Below.refl _ _⟩
  by_cases hok : ∃ v, Lib.parseIntB 64 s.data.toList = .ok v
  rotate_left
  · have hno : readD s.data.toList = none := by
      cases e : readD s.data.toList with
      | none => rfl
      | some n => exact absurd ⟨n, (readD_some e).2⟩ hok
    have hr : Hid (optV (readD s.data.toList) = .tuple #[.int .i64 0, .bool false]) := Lib.hid (by rw [hno]; rfl)
    have hpb := parse_bad s hs (fun v h => hok ⟨v, h⟩) w hE
    clear hok hno
    go_enter Tryz.func56, Tryz.ntmps56
    go_wp2_with (go_at_call 72; refine hct.mono ?_; rintro e w' ⟨⟨S, rfl, hS⟩, rfl⟩; have hS18 : S.size ≤ 18 := (by omega); clear hS)
    refine hpb.mono ?_
    rintro e w1 ⟨n, t, N, rfl, hb⟩
    go_wp2
    go_ret2
    exact ⟨congrArg Ending.returned hr.out.symm, hb⟩
  · obtain ⟨v, hv⟩ := hok
    have hpo := parse_ok s hs v hv w
    have hbd := Lib.parseIntB_bounds hv
    have hv' := Lib.hid hv
    have b0 : -9223372036854775808 ≤ v := by have := hbd.1; omega
    have b1 : v ≤ 9223372036854775807 := by have := hbd.2; omega
    have hM18 : M ≤ 18 := by omega
    obtain ⟨D, hD⟩ : ∃ D : ByteArray, D = ⟨(Lib.itoa v).toArray⟩ := ⟨_, rfl⟩
    have hcd := fun W (h : TabP W) => implDecimal_any v b0 b1 W h
    rw [← hD] at hcd
    have hD' := Lib.hid hD
    have hcd' := Lib.hid hcd
    clear hv hbd hD hcd
    by_cases heq : D = s
    · have hr : Hid (optV (readD s.data.toList) = .tuple #[.int .i64 v, .bool true]) := Lib.hid (by
        have hl : s.data.toList = Lib.itoa v := by rw [← heq, hD'.out]
        rw [hl, readD_itoa v (by rw [← hl, ← hM'.out]; exact hM18)]; rfl)
      subst heq
      go_enter Tryz.func56, Tryz.ntmps56
      go_wp2_with (go_at_call 72; refine hct.mono ?_; rintro e w' ⟨⟨S, rfl, hS⟩, rfl⟩; have hS18 : S.size ≤ 18 := (by omega); clear hS)
      refine hpo.mono ?_
      rintro e w1 ⟨rfl, hb1⟩
      go_wp2_with fail
      refine (hcd'.out _ (hT.below hb1)).mono ?_
      rintro e w2 ⟨rfl, hb2⟩
      have hb := hb1.trans (hb2.mono hb1.size)
      clear hb1 hb2
      go_wp2
      go_ret2
      exact ⟨congrArg Ending.returned hr.out.symm, hb⟩
    · have hno : readD s.data.toList = none := by
        cases e : readD s.data.toList with
        | none => rfl
        | some n =>
          obtain ⟨e1, e2⟩ := readD_some e
          have : n = v := by have := e2.symm.trans hv'.out; injection this
          subst this
          exact absurd (by rw [hD'.out]; exact (bytes_of s _ e1.symm).symm) heq
      have hr : Hid (optV (readD s.data.toList) = .tuple #[.int .i64 0, .bool false]) := Lib.hid (by rw [hno]; rfl)
      have hne : (D.toList == s.toList) = false := by
        rw [beq_eq_false_iff_ne]; intro h
        rw [ByteArray.toList_eq, ByteArray.toList_eq] at h
        exact heq ((bytes_of D _ h).trans (bytes_of s _ rfl).symm)
      clear hno
      go_enter Tryz.func56, Tryz.ntmps56
      go_wp2_with (go_at_call 72; refine hct.mono ?_; rintro e w' ⟨⟨S, rfl, hS⟩, rfl⟩; have hS18 : S.size ≤ 18 := (by omega); clear hS)
      refine hpo.mono ?_
      rintro e w1 ⟨rfl, hb1⟩
      go_wp2_with fail
      refine (hcd'.out _ (hT.below hb1)).mono ?_
      rintro e w2 ⟨rfl, hb2⟩
      have hb := hb1.trans (hb2.mono hb1.size)
      clear hb1 hb2
      go_wp2
      go_ret2
      exact ⟨congrArg Ending.returned hr.out.symm, hb⟩

/-- the one row of that name -/
theorem errRow (u : TypeId) (h : Tryz.prog.typeName? 3 u = some "*errors.errorString") : u = 151 :=
  typeName_ptr_named (nm := "errors.errorString") (by rw [show "*" ++ "errors.errorString" = "*errors.errorString" by decide]; kernel_rfl) (by kernel_rfl) (by decide) u (by rw [show "*" ++ "errors.errorString" = "*errors.errorString" by decide]; exact h)
theorem gSyn : Tryz.prog.globalNamed "strconv.ErrSyntax" = some 1 := by kernel_rfl
theorem gRng : Tryz.prog.globalNamed "strconv.ErrRange" = some 2 := by kernel_rfl
theorem gSynT : (Tryz.prog.globals[1]?).map (·.type) = some 96 := by kernel_rfl
theorem gRngT : (Tryz.prog.globals[2]?).map (·.type) = some 96 := by kernel_rfl
theorem errs_of_laid {W : World} {rest : List (String × DataW Unit)} {t1 t2 : List UInt8}
    (h : laidMet Tryz.prog (("strconv.ErrRange", .iface "*errors.errorString" (.ptr (.agg [.lit (.string t1)]))) :: ("strconv.ErrSyntax", .iface "*errors.errorString" (.ptr (.agg [.lit (.string t2)]))) :: rest) W) : ErrsAt W := by
  obtain ⟨a0, s0, hv0, _, _, _⟩ := laid_sentinel (g := 2) h gRng gRngT Tryz.underlying96 errRow Tryz.underlying151 Tryz.underlying153 rfl rfl Tryz.underlying9 (by kernel_rfl) (by kernel_rfl)
  obtain ⟨a1, s1, hv1, _, _, _⟩ := laid_sentinel (g := 1) h.tail gSyn gSynT Tryz.underlying96 errRow Tryz.underlying151 Tryz.underlying153 rfl rfl Tryz.underlying9 (by kernel_rfl) (by kernel_rfl)
  exact ⟨_, _, _, _, hv1, hv0⟩
end Go.Proofs.YtgfhjcbmilaegaaGreatDoor
namespace Go.Proofs.YtgfhjcbmilaegaaGreatDoor
open Go.ChangeShapes Go.WideShapes Go.ChangeAt Go.RowKit Go.Sort
set_option linter.unusedVariables false
set_option linter.unusedSimpArgs false
theorem shape_below {w w' : World} (h : w.ShapedOpen Tryz.prog) (hb : Below w.heap.size w w') : w'.ShapedOpen Tryz.prog :=
  h.keptBut (hb.frame (fun _ => False)) (fun p hp => hp.elim)
theorem rl_isValueV (n : Int) (w : World) : Calls Tryz.prog 52 #[.int .i64 n] w fun e w' => e = .returned (.bool (inV n)) ∧ w = w' := isValue_any _ _
/-- the library's parts: how many, and what they are -/
def cutN (s : ByteArray) : List ByteArray := Lib.splitB ⟨#[44]⟩ 0 (min 65 (s.size + 1) - 1) s
theorem cutN_data (s : ByteArray) : (cutN s).map (·.data.toList) = Lib.splitK [44] 0 (min 65 (s.size + 1) - 1) s.data.toList := Lib.splitB_data _ _ _ _
theorem cutN_long (s : ByteArray) (h : 64 < (splitL 44 s.data.toList).length) : 64 < (cutN s).length := by
  have hl := splitL_len 44 s.data.toList
  rw [len_data] at hl
  have hk : min 65 (s.size + 1) - 1 = 64 := by omega
  have e : (cutN s).length = ((cutN s).map (·.data.toList)).length := by rw [List.length_map]
  rw [e, cutN_data, hk, splitK_long 44 64 _ (by omega)]; omega
theorem cutN_all (s : ByteArray) (h : (splitL 44 s.data.toList).length ≤ 64) : (cutN s).map (·.data.toList) = splitL 44 s.data.toList := by
  have hl := splitL_len 44 s.data.toList
  rw [len_data] at hl
  rw [cutN_data]
  exact splitK_all 44 _ _ (by omega)
theorem cutN_le (s : ByteArray) : (cutN s).length ≤ 65 := by
  have := Lib.splitB_length_le ⟨#[44]⟩ 0 (min 65 (s.size + 1) - 1) s
  unfold cutN; omega
theorem splitN_any (s : ByteArray) (w : World) (hs : s.size ≤ 1048576) (hSh : w.ShapedOpen Tryz.prog) :
    Calls Tryz.prog 55 #[.string s, .string ⟨#[44]⟩, .int .i64 65] w fun e w' => ∃ cap, e = .returned (.slice (some ⟨w.heap.size, 0, none⟩) (cutN s).length cap) ∧ (cutN s).length ≤ cap ∧ Below w.heap.size w w' ∧ w.heap.size < w'.heap.size ∧
      ∀ j (hj : j < (cutN s).length), w'.cell? ⟨w.heap.size, j, none⟩ = some (.string (cutN s)[j]) := by
  refine (Tryz.strings_SplitN_shaped s ⟨#[44]⟩ 65 w hSh (by omega) (by decide) (by omega) (by omega)).mono ?_
  rintro e w' ⟨rfl, rfl⟩
  refine ⟨min 65 (s.size + 1), rfl, ?_, (Below.refl _ _).alloc (Nat.le_refl _) _, by simp, ?_⟩
  · have := Lib.splitB_length_le ⟨#[44]⟩ 0 (min 65 (s.size + 1) - 1) s
    unfold cutN; omega
  · intro j hj
    rw [World.cell?_alloc_mark]
    show (Lib.cellsOf (cutN s) _)[j]? = _
    unfold Lib.cellsOf
    rw [List.getElem?_toArray, List.getElem?_append_left (by rw [List.length_map]; exact hj), List.getElem?_map, List.getElem?_eq_getElem hj]
    rfl
/-- a new row of N numbers, the first of which are laid -/
def fillK (Z : List Int) (N : Nat) : List Value := Z.map encI ++ List.replicate (N - Z.length) (.int .i64 0)
theorem fillK_nil (N : Nat) : fillK [] N = List.replicate N (.int .i64 0) := by simp [fillK]
theorem fillK_len (Z : List Int) (N : Nat) (h : Z.length ≤ N) : (fillK Z N).length = N := by simp [fillK]; omega
theorem fillK_set (Z : List Int) (N : Nat) (n : Int) (h : Z.length < N) : (fillK Z N).set Z.length (.int .i64 n) = fillK (Z ++ [n]) N := by
  unfold fillK
  have e : List.replicate (N - Z.length) (Value.int .i64 0) = Value.int .i64 0 :: List.replicate (N - (Z.length + 1)) (.int .i64 0) := by
    rw [show N - Z.length = (N - (Z.length + 1)) + 1 by omega, List.replicate_succ]
  rw [e, List.set_append_right _ _ (by simp), List.length_map, Nat.sub_self, List.set_cons_zero, List.map_append, List.append_assoc, List.length_append]
  rfl
theorem fillK_all (Z : List Int) : fillK Z Z.length = Z.map encI := by simp [fillK]

set_option maxHeartbeats 3200000 in
set_option maxRecDepth 1000000 in
theorem implReadList_any (s : ByteArray) (w : World) (hs : s.size ≤ 1048576) (hT : TabP w) (hE : ErrsAt w) (hSh : w.ShapedOpen Tryz.prog) :
    Calls Tryz.prog 37 #[.string s] w (LRet (readL s.data.toList) w) := by
  obtain ⟨i0, hi, hz0, hz1, hz2⟩ := info_parts infoI
  by_cases hd : s.data.toList = [45]
  · have hs' := is_dash s hd
    subst hs'
    go_enter Tryz.func37, Tryz.ntmps37
    go_wp2
    go_ret2
    exact ⟨_, rfl, rowI_start w, (Below.refl _ _).alloc (Nat.le_refl _) _⟩
  have hnd := no_dash s hd
  have hc0 := splitN_any s w hs hSh
  have hNle := cutN_le s
  by_cases hlong : 64 < (splitL 44 s.data.toList).length
  · have hr : Hid (readL s.data.toList = none) := Lib.hid (by unfold readL; rw [if_neg hd, if_pos hlong])
    have hN := cutN_long s hlong
    obtain ⟨M, hM⟩ : ∃ M, M = (cutN s).length := ⟨_, rfl⟩
    have hM64 : 64 < M := by omega
    have hM65 : M ≤ 65 := by omega
    have h1 : decide ((64 : Int) < (M : Int)) = true := by simp; omega
    have hc2 : Calls Tryz.prog 55 #[.string s, .string ⟨#[44]⟩, .int .i64 65] w fun e w' => ∃ cap, e = .returned (.slice (some ⟨w.heap.size, 0, none⟩) M cap) ∧ M ≤ cap ∧ Below w.heap.size w w' := hc0.mono fun e w' ⟨cap, he, hc, hb, _⟩ => ⟨cap, by rw [hM]; exact he, by rw [hM]; exact hc, hb⟩
    clear hM hN hNle hlong hd hc0
    go_enter Tryz.func37, Tryz.ntmps37
    go_wp2_with (go_at_call 55; refine hc2.mono ?_; rintro e w1 ⟨cap, rfl, hcap, hb1⟩)
    go_ret2
    rw [hr.out]
    exact ⟨rfl, hb1⟩
  obtain ⟨P, hP⟩ : ∃ P, P = splitL 44 s.data.toList := ⟨_, rfl⟩
  rw [← hP] at hlong
  have hr : Hid (readL s.data.toList = readParts P) := Lib.hid (by unfold readL; rw [if_neg hd, ← hP, if_neg hlong])
  have hall := cutN_all s (by rw [← hP]; omega)
  rw [← hP] at hall
  have hNP : (cutN s).length = P.length := by rw [← hall, List.length_map]
  have hpl : Hid (∀ p ∈ P, p.length ≤ 1048576) := Lib.hid (fun p hp => by
    have := part_len 44 _ s.data.toList (Nat.le_refl _) p (by rw [← hP]; exact hp)
    rw [len_data] at this; omega)
  have hc2 : Calls Tryz.prog 55 #[.string s, .string ⟨#[44]⟩, .int .i64 65] w fun e w' => ∃ cap, e = .returned (.slice (some ⟨w.heap.size, 0, none⟩) P.length cap) ∧ P.length ≤ cap ∧ Below w.heap.size w w' ∧ w.heap.size < w'.heap.size ∧ ∀ j (hj : j < P.length), w'.cell? ⟨w.heap.size, j, none⟩ = some (.string ⟨(P[j]).toArray⟩) :=
    hc0.mono fun e w' ⟨cap, he, hc, hb, hg, hcell⟩ => ⟨cap, by rw [← hNP]; exact he, by rw [← hNP]; exact hc, hb, hg, fun j hj => by
      have hj2 : j < (cutN s).length := by rw [hNP]; exact hj
      rw [hcell j hj2]
      congr 2
      refine bytes_of _ _ ?_
      have h2 : ((cutN s).map (·.data.toList))[j]? = P[j]? := by rw [hall]
      rw [List.getElem?_map, List.getElem?_eq_getElem hj2, List.getElem?_eq_getElem hj] at h2
      exact Option.some.inj h2⟩
  have h1 : decide ((64 : Int) < (P.length : Int)) = false := by simp; omega
  have hP64 : P.length ≤ 64 := by omega
  have hc2' := Lib.hid hc2
  clear hP hd hall hNP hc0 hNle hlong hc2
  go_enter Tryz.func37, Tryz.ntmps37
  go_wp2_with (first
    | (go_at_call 55; refine hc2'.out.mono ?_; rintro e w1 ⟨cap, rfl, hcap, hb1, hgl, hcell⟩; have hcell' := Lib.hid hcell; clear hcell)
    | (at_make; refine wpList_make_full _ rfl _ _ 26 rfl w1.heap.size 2 i0 (.int .i64 0) 1 Tryz.underlying26 hi hz0 hz1 .i64 .i64 _ _ P.length rfl rfl rfl rfl ?b1 ?b2 ?b3 ?_))
  case b1 => rw [hz2]; omega
  case b2 => unfold maxLen; omega
  case b3 => exact Nat.le_refl _
  intro w2 hown hgr
  rw [toList_madeCells_one, ← fillK_nil] at hown
  have hb2 : Below w1.heap.size w1 w2 := (Below.refl _ _).grown hgr (Nat.le_refl _) (fun k hk => by cases hk)
  clear hgr
  go_wp2
  go_loopw [23] (fun i wr => ∃ (k : Nat) (Z : List Int), k ≤ P.length ∧ i = .int .i64 k ∧ wr.ownsRow w1.heap.size 2 1 (.slice (some ⟨w1.heap.size, 0, none⟩) P.length P.length) P.length (fillK Z P.length) ∧ Below w1.heap.size w1 wr ∧ Hid (Z.length = k) ∧ Hid (readParts (P.take k) = some Z)) (fun i _ => P.length - (intOf i).toNat)
  case atStart => exact ⟨0, [], by omega, rfl, hown, hb2, Lib.hid rfl, Lib.hid rfl⟩
  case round =>
    obtain ⟨k, Z, hk, rfl, ho, hbel, hZk, hrp⟩ := hrel
    have hsz := hbel.size
    have hsz1 := hb1.size
    by_cases hlt : k < P.length
    · obtain ⟨p, hp⟩ : ∃ p, p = P[k] := ⟨_, rfl⟩
      obtain ⟨S, hS⟩ : ∃ S : ByteArray, S = ⟨p.toArray⟩ := ⟨_, rfl⟩
      have hcx : wr.cell? ⟨w.heap.size, k, none⟩ = some (.string S) := (hbel.cell (p := ⟨w.heap.size, k, none⟩) hgl).trans (by rw [hS, hp]; exact hcell'.out k hlt)
      have hSl : S.data.toList = p := by rw [hS]
      have hSs : S.size ≤ 1048576 := by
        rw [← len_data, hSl]; exact hpl.out p (by rw [hp]; exact List.getElem_mem _)
      have hBw := hb1.trans (hbel.mono hsz1)
      have hcn := implReadDecimal_any S wr hSs (hT.below hBw) (hE.below hBw)
      rw [hSl] at hcn
      have hpm : Hid (p ∈ P) := Lib.hid (by rw [hp]; exact List.getElem_mem _)
      have hp' := Lib.hid hp
      clear hp hS hSl hSs
      cases hv : rv p with
      | none =>
        have hbad : Hid (readL s.data.toList = none) := Lib.hid (by rw [hr.out]; exact readParts_bad hpm.out hv)
        have hno := readD_no hv
        clear ho hv
        rcases hno with e | ⟨n, e, hin⟩
        · rw [e] at hcn
          simp only [optV] at hcn
          clear e
          go_wp2_with (go_at_call 56; refine hcn.mono ?_; rintro e w3 ⟨rfl, hb3⟩)
          go_ret2
          rw [hbad.out]
          exact ⟨rfl, hBw.trans (hb3.mono hBw.size)⟩
        · rw [e] at hcn
          simp only [optV] at hcn
          clear e
          go_wp2_with (first
            | (go_at_call 56; refine hcn.mono ?_; rintro e w3 ⟨rfl, hb3⟩)
            | (go_at_call 52; refine (rl_isValueV _ _).mono ?_; rintro e w' ⟨rfl, rfl⟩))
          go_ret2
          rw [hbad.out]
          exact ⟨rfl, hBw.trans (hb3.mono hBw.size)⟩
      | some n =>
        obtain ⟨e, hin⟩ := readD_of_rv hv
        have hst := Lib.hid (readParts_take hlt hrp.out (by rw [← hp'.out]; exact hv))
        have hset : Hid ((fillK Z P.length).set k (.int .i64 n) = fillK (Z ++ [n]) P.length) := Lib.hid (by
          have := fillK_set Z P.length n (by rw [hZk.out]; exact hlt)
          rw [hZk.out] at this; exact this)
        have hZ2 : Hid ((Z ++ [n]).length = k + 1) := Lib.hid (by rw [List.length_append, hZk.out]; rfl)
        obtain ⟨old, hold⟩ : ∃ old, (fillK Z P.length)[k]? = some old := ⟨_, List.getElem?_eq_getElem (by rw [fillK_len _ _ (by rw [hZk.out]; omega)]; exact hlt)⟩
        have hold' := Lib.hid hold
        have ho' := Lib.hid ho
        rw [e] at hcn
        simp only [optV] at hcn
        clear e hv hold ho
        go_wp2_with (first
          | (go_at_call 56; refine hcn.mono ?_; rintro e w3 ⟨rfl, hb3⟩; have hc3 := ((own_kept ho'.out hb3).cellAt k (by omega)).trans hold'.out; have hf3 := (own_kept ho'.out hb3).frozenAt k)
          | (go_at_call 52; refine (rl_isValueV _ _).mono ?_; rintro e w' ⟨rfl, rfl⟩))
        have hst2 := (own_kept ho'.out hb3).stored k (.int .i64 n)
        rw [hset.out] at hst2
        have hb4 := hbel.trans (hb3.mono hsz)
        go_roundw
        case rel => exact ⟨k + 1, Z ++ [n], by omega, by go_num, hst2.1, hb4.grown hst2.2 hb4.size (fun j hj => by cases hj; exact Nat.le_refl _), hZ2, hst⟩
        case measure => simp [intOf]; omega
    · have hks : k = P.length := by omega
      have hfin : Hid (readL s.data.toList = some Z) := Lib.hid (by rw [hr.out]; have := hrp.out; rw [hks, List.take_length] at this; exact this)
      have hrow : Hid (wr.ownsRow w1.heap.size 2 1 (.slice (some ⟨w1.heap.size, 0, none⟩) P.length P.length) Z.length (Z.map encI)) := Lib.hid (by
        have hzl : Z.length = P.length := by rw [hZk.out, hks]
        have h2 := ho
        rw [← hzl] at h2 ⊢
        rw [fillK_all] at h2; exact h2)
      clear hks ho
      go_wp2
      go_ret2
      rw [hfin.out]
      exact ⟨_, rfl, own_lower hrow.out hsz1, hb1.trans (hbel.mono hsz1)⟩
end Go.Proofs.YtgfhjcbmilaegaaGreatDoor
namespace Go.Proofs.YtgfhjcbmilaegaaGreatDoor
open Go.ChangeShapes Go.WideShapes Go.ChangeAt Go.RowKit Go.Deep
set_option linter.unusedVariables false
set_option linter.unusedSimpArgs false
set_option maxRecDepth 1000000
def readM (l : List UInt8) (n : Nat) : Option (List Int) :=
  match readL l with
  | some Z => if Z.length = n then some Z else none
  | none => none
theorem readM_none {l : List UInt8} {n : Nat} (h : readL l = none) : readM l n = none := by unfold readM; rw [h]
theorem readM_len {l : List UInt8} {n : Nat} {Z : List Int} (h : readL l = some Z) (hl : Z.length ≠ n) : readM l n = none := by unfold readM; rw [h]; exact if_neg hl
theorem readM_yes {l : List UInt8} {n : Nat} {Z : List Int} (h : readL l = some Z) (hl : Z.length = n) : readM l n = some Z := by unfold readM; rw [h]; exact if_pos hl
theorem readM_some {l : List UInt8} {n : Nat} {Z : List Int} (h : readM l n = some Z) : readL l = some Z ∧ Z.length = n := by
  unfold readM at h
  cases ho : readL l with
  | none => rw [ho] at h; exact absurd h (by simp)
  | some Y =>
    rw [ho] at h
    by_cases hl : Y.length = n
    · rw [show (match some Y with | some Z => if Z.length = n then some Z else none | none => none) = some Y from if_pos hl] at h
      cases h; exact ⟨rfl, hl⟩
    · rw [show (match some Y with | some Z => if Z.length = n then some Z else none | none => none) = none from if_neg hl] at h
      exact absurd h (by simp)
theorem readM_no {l : List UInt8} {n : Nat} (h : readM l n = none) : readL l = none ∨ ∃ Z, readL l = some Z ∧ Z.length ≠ n := by
  cases ho : readL l with
  | none => exact Or.inl rfl
  | some Y =>
    refine Or.inr ⟨Y, rfl, fun hl => ?_⟩
    rw [readM_yes ho hl] at h
    exact absurd h (by simp)
theorem own_shapeM {w : World} {B e size n : Nat} {v : Value} {xs : List Value} (h : w.ownsRow B e size v n xs) : ∃ a cap, v = .slice a n cap := by
  rcases h.2 with ⟨rfl, rfl⟩ | ⟨g, cap, _, rfl, _⟩
  · exact ⟨none, 0, rfl⟩
  · exact ⟨_, cap, rfl⟩
set_option maxHeartbeats 1600000 in
theorem readNumbers_any (s : ByteArray) (n : Nat) (w : World) (hn : n ≤ 1000) (hs : s.size ≤ 1048576) (hT : TabP w) (hE : ErrsAt w) (hSh : w.ShapedOpen Tryz.prog) :
    Calls Tryz.prog 36 #[.string s, .int .i64 n] w (LRet (readM s.data.toList n) w) := by
  have cN0 := implReadList_any s w hs hT hE hSh
  cases ho : readL s.data.toList with
  | none =>
    rw [readM_none ho]
    rw [ho] at cN0
    have cN : Hid (Calls Tryz.prog 37 #[.string s] w fun e w' => e = .returned (.tuple #[.slice none 0 0, .bool false]) ∧ Below w.heap.size w w') := Lib.hid cN0
    clear cN0 ho
    go_enter Tryz.func36, Tryz.ntmps36
    go_wp2_with (go_at_call 37; (with_reducible refine cN.out.mono ?_); rintro e w1 ⟨rfl, b1⟩)
    go_ret2
    exact ⟨rfl, b1⟩
  | some Z =>
    rw [ho] at cN0
    have cN : Hid (Calls Tryz.prog 37 #[.string s] w fun e w' => ∃ a cap, e = .returned (.tuple #[.slice a Z.length cap, .bool true]) ∧ w'.ownsRow w.heap.size 2 1 (.slice a Z.length cap) Z.length (Z.map encI) ∧ Below w.heap.size w w') := Lib.hid (cN0.mono fun e w' h => by
      obtain ⟨v, he, hown, hb⟩ := h
      obtain ⟨a, cap, rfl⟩ := own_shapeM hown
      exact ⟨a, cap, he, hown, hb⟩)
    clear cN0
    by_cases hl : Z.length = n
    · rw [readM_yes ho hl]
      have hq : ((Z.length : Int) == (n : Int)) = true := by simp [hl]
      have hq2 : ((Z.length : Int) != (n : Int)) = false := by simp [bne, hq]
      clear ho hl
      go_enter Tryz.func36, Tryz.ntmps36
      go_wp2_with (go_at_call 37; (with_reducible refine cN.out.mono ?_); rintro e w1 ⟨a, cap, rfl, own1, b1⟩)
      go_ret2
      exact ⟨_, rfl, own1, b1⟩
    · rw [readM_len ho hl]
      have hq : ((Z.length : Int) == (n : Int)) = false := by simpa using (show ¬ (Z.length : Int) = (n : Int) by omega)
      have hq2 : ((Z.length : Int) != (n : Int)) = true := by simp [bne, hq]
      clear ho hl
      go_enter Tryz.func36, Tryz.ntmps36
      go_wp2_with (go_at_call 37; (with_reducible refine cN.out.mono ?_); rintro e w1 ⟨a, cap, rfl, own1, b1⟩)
      go_ret2
      exact ⟨rfl, b1⟩
end Go.Proofs.YtgfhjcbmilaegaaGreatDoor
namespace Go.Proofs.YtgfhjcbmilaegaaGreatDoor
/-- the last p digits of a number -/
def dN : Nat → Nat → List UInt8
  | 0, _ => []
  | p + 1, n => dN p (n / 10) ++ [UInt8.ofNat (48 + n % 10)]
theorem dN_len : ∀ p n, (dN p n).length = p
  | 0, _ => rfl
  | p + 1, n => by unfold dN; rw [List.length_append, dN_len p]; rfl
theorem dN_zero : ∀ p, dN p 0 = List.replicate p 48
  | 0 => rfl
  | p + 1 => by
    unfold dN
    rw [show 0 / 10 = 0 from rfl, dN_zero p, List.replicate_succ']; rfl
theorem digs_ge : ∀ (j n : Nat), 10 ^ j ≤ n → j < (digsN n).length
  | 0, n, h => digsN_ne n (by have := h; simp at this; omega)
  | j + 1, n, h => by
    have hp := Nat.pow_pos (n := j) (show 0 < 10 by omega)
    rw [Nat.pow_succ] at h
    rw [digsN_pos n (by omega), List.length_append]
    have := digs_ge j (n / 10) (by omega)
    simp; omega
/-- zeros ahead of the digits -/
theorem pad_dN : ∀ (p n : Nat), n < 10 ^ p → List.replicate (p - (digsN n).length) 48 ++ digsN n = dN p n
  | 0, n, h => by
    have : n = 0 := by simpa using h
    subst this; rw [digsN_zero]; rfl
  | p + 1, n, h => by
    by_cases h0 : n = 0
    · subst h0; rw [digsN_zero, dN_zero]; simp
    · rw [Nat.pow_succ] at h
      have ih := pad_dN p (n / 10) (by omega)
      unfold dN
      rw [← ih, digsN_pos n (by omega), List.length_append]
      have e : p + 1 - ((digsN (n / 10)).length + [UInt8.ofNat (48 + n % 10)].length) = p - (digsN (n / 10)).length := by simp
      rw [e, List.append_assoc]
/-- the same with the decimal form, where the number has at least one digit -/
def padL (p : Nat) (n : Int) : List UInt8 := List.replicate (p - (Lib.itoa n).length) 48 ++ Lib.itoa n
theorem padL_dN (p n : Nat) (hp : 0 < p) (h : n < 10 ^ p) : padL p (n : Int) = dN p n := by
  unfold padL
  by_cases h0 : n = 0
  · subst h0
    rw [show ((0 : Nat) : Int) = 0 from rfl, itoa_zero, dN_zero]
    obtain ⟨q, rfl⟩ : ∃ q, p = q + 1 := ⟨p - 1, by omega⟩
    rw [List.replicate_succ']; rfl
  · rw [itoa_pos n (by omega), pad_dN p n h]
theorem padL_len (p : Nat) (n : Int) (h0 : 0 ≤ n) (hp : 0 < p) (h : n < (10 ^ p : Nat)) : (padL p n).length = p := by
  obtain ⟨k, rfl⟩ := Int.eq_ofNat_of_zero_le h0
  rw [padL_dN p k hp (by omega), dN_len]
theorem itoa_len1 (n : Int) (h0 : 0 ≤ n) (h : n < 10) : (Lib.itoa n).length = 1 := by
  obtain ⟨k, rfl⟩ := Int.eq_ofNat_of_zero_le h0
  by_cases hk : k = 0
  · subst hk; rw [show ((0 : Nat) : Int) = 0 from rfl, itoa_zero]; rfl
  · rw [itoa_pos k (by omega)]
    have a := digsN_len 1 k (by omega)
    have b := digsN_ne k (by omega)
    omega
theorem itoa_lenp (j : Nat) (n : Int) (h0 : ((10 ^ j : Nat) : Int) ≤ n) (h : n < (10 ^ (j + 1) : Nat)) : (Lib.itoa n).length = j + 1 := by
  have hp := Nat.pow_pos (n := j) (show 0 < 10 by omega)
  obtain ⟨k, rfl⟩ := Int.eq_ofNat_of_zero_le (show 0 ≤ n by omega)
  rw [itoa_pos k (by omega)]
  have a := digsN_len (j + 1) k (by omega)
  have b := digs_ge j k (by omega)
  omega
theorem pad_lt (n : Int) (h0 : 0 ≤ n) (h : n < 10) : 48 :: Lib.itoa n = padL 2 n := by
  unfold padL; rw [itoa_len1 n h0 h]; rfl
theorem pad_ge (n : Int) (h0 : 10 ≤ n) (h : n < 100) : Lib.itoa n = padL 2 n := by
  unfold padL; rw [itoa_lenp 1 n (by omega) (by omega)]; rfl
theorem pad_year (n : Int) (h0 : 1000 ≤ n) (h : n < 10000) : Lib.itoa n = padL 4 n := by
  unfold padL; rw [itoa_lenp 3 n (by omega) (by omega)]; rfl
theorem pad_one (n : Int) : Lib.itoa n = padL 1 n := by
  have : (Lib.itoa n).length ≠ 0 := by
    rcases Int.lt_trichotomy n 0 with h | h | h
    · obtain ⟨N, rfl⟩ : ∃ N : Nat, n = -(N : Int) := ⟨n.natAbs, by omega⟩
      rw [itoa_negp N (by omega)]; simp
    · subst h; rw [itoa_zero]; simp
    · obtain ⟨N, rfl⟩ := Int.eq_ofNat_of_zero_le (Int.le_of_lt h)
      rw [itoa_pos N (by omega)]; have := digsN_ne N (by omega); omega
  unfold padL; rw [show 1 - (Lib.itoa n).length = 0 by omega]; rfl
/-- a one ahead: digits with leading zeros behind it -/
theorem digs_one : ∀ (p r : Nat), r < 10 ^ p → digsN (r + 10 ^ p) = 49 :: dN p r
  | 0, r, h => by
    have : r = 0 := by simpa using h
    subst this
    rw [show 0 + 10 ^ 0 = 1 from rfl, digsN_pos 1 (by omega), show 1 / 10 = 0 from rfl, digsN_zero]; rfl
  | p + 1, r, h => by
    have hp := Nat.pow_pos (n := p) (show 0 < 10 by omega)
    rw [Nat.pow_succ] at h
    rw [Nat.pow_succ, digsN_pos _ (by omega)]
    have e1 : (r + 10 ^ p * 10) / 10 = r / 10 + 10 ^ p := by omega
    have e2 : (r + 10 ^ p * 10) % 10 = r % 10 := by omega
    rw [e1, e2, digs_one p (r / 10) (by omega)]
    rfl
theorem itoa_one (p r : Nat) (h : r < 10 ^ p) : Lib.itoa (((r + 10 ^ p : Nat) : Int)) = 49 :: dN p r := by
  have hp := Nat.pow_pos (n := p) (show 0 < 10 by omega)
  rw [itoa_pos _ (by omega), digs_one p r h]
theorem dN_all : ∀ p n, (dN p n).all db = true
  | 0, _ => rfl
  | p + 1, n => by
    unfold dN
    refine all_snoc (dN_all p _) ?_
    rw [db_iff, UInt8.toNat_ofNat']; omega
theorem dN_val : ∀ p n, n < 10 ^ p → valF 0 (dN p n) = n
  | 0, n, h => by
    have : n = 0 := by simpa using h
    subst this; rfl
  | p + 1, n, h => by
    rw [Nat.pow_succ] at h
    unfold dN
    rw [valF_snoc, dN_val p (n / 10) (by omega), UInt8.toNat_ofNat']; omega
/-- digits are the digits of their value -/
theorem dN_back : ∀ (p : Nat) (b : List UInt8), b.length = p → b.all db = true → dN p (valF 0 b) = b
  | 0, b, h, _ => by
    have : b = [] := List.length_eq_zero_iff.1 h
    subst this; rfl
  | p + 1, b, h, ha => by
    have hne : b ≠ [] := by intro e; subst e; simp at h
    obtain ⟨c, d, rfl⟩ : ∃ c d, b = c ++ [d] := ⟨b.dropLast, b.getLast hne, (List.dropLast_concat_getLast hne).symm⟩
    rw [List.all_append] at ha
    have ha1 : c.all db = true := by revert ha; cases c.all db <;> simp
    have ha2 : db d = true := by revert ha; cases h2 : db d <;> simp [h2]
    have hd := (db_iff d).1 ha2
    have hl : c.length = p := by simpa using h
    unfold dN
    rw [valF_snoc]
    have e1 : (10 * valF 0 c + (d.toNat - 48)) / 10 = valF 0 c := by omega
    have e2 : (10 * valF 0 c + (d.toNat - 48)) % 10 = d.toNat - 48 := by omega
    rw [e1, e2, dN_back p c hl ha1, digit_back d ha2]
theorem dN_ndash (p n : Nat) (c : UInt8) (hc : db c = false) : ∀ x ∈ dN p n, x ≠ c := by
  intro x hx e
  subst e
  have := List.all_eq_true.1 (dN_all p n) x hx
  rw [hc] at this; exact absurd this (by decide)
end Go.Proofs.YtgfhjcbmilaegaaGreatDoor
