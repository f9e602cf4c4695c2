/-
  ReadDecimal: contracts of the program's function; both functions at every text.
-/
import Derived.Test.YtnipdbphfnppeadDoorDecR
import Derived.Shelf.Strconv.ErrVarParseInt
namespace Go.Proofs.YtnipdbphfnppeadDoor
open Go.RowKit Go.Dec

theorem iVal_any (n : Int) (w : World) : Calls Tryd.prog 15 #[.int .i64 n] w fun e w' => e = .returned (.bool (decide (-1000000000000000 ≤ n) && decide (n ≤ 1000000000000000))) ∧ w = w' := by
  by_cases h : -1000000000000000 ≤ n
  · go_enter Tryd.func15, Tryd.ntmps15
    go_wp2
    go_ret
    exact ⟨by simp [h], rfl⟩
  · go_enter Tryd.func15, Tryd.ntmps15
    go_wp2
    go_ret
    exact ⟨by simp; omega, rfl⟩

/-- What the library's variables hold when the call begins: the table of powers of ten, and its two errors. -/
structure Lays (w : World) : Prop where
  tab : Lib.TabIs Tryd.prog w "internal/strconv.uint64pow10" .u64 Lib.pow10Tab
  syn : ∃ tp p, w.var? Tryd.prog "strconv.ErrSyntax" = some #[.iface tp p]
  rng : ∃ tp p, w.var? Tryd.prog "strconv.ErrRange" = some #[.iface tp p]

theorem pow_tab {w w' : World} (h : Lib.TabIs Tryd.prog w "internal/strconv.uint64pow10" .u64 Lib.pow10Tab) (hb : Below w.heap.size w w') : Lib.TabIs Tryd.prog w' "internal/strconv.uint64pow10" .u64 Lib.pow10Tab := Joins.tab_stays gPow h hb (Nat.le_refl _)

theorem iDec_is (v : Int) (s : ByteArray) (w : World) (h0 : -9223372036854775808 ≤ v) (h1 : v ≤ 9223372036854775807) (htab : Lib.TabIs Tryd.prog w "internal/strconv.uint64pow10" .u64 Lib.pow10Tab) (h : Lib.itoa v = s.data.toList) :
    Calls Tryd.prog 17 #[.int .i64 v] w fun e w' => e = .returned (.string s) ∧ Below w.heap.size w w' := by
  have := iDec_any v w h0 h1 htab
  rwa [str_eq h] at this

theorem iDec_not (v : Int) (s : ByteArray) (w : World) (h0 : -9223372036854775808 ≤ v) (h1 : v ≤ 9223372036854775807) (htab : Lib.TabIs Tryd.prog w "internal/strconv.uint64pow10" .u64 Lib.pow10Tab) (h : Lib.itoa v ≠ s.data.toList) :
    Calls Tryd.prog 17 #[.int .i64 v] w fun e w' => (∃ t : ByteArray, (t.toList == s.toList) = false ∧ e = .returned (.string t)) ∧ Below w.heap.size w w' :=
  (iDec_any v w h0 h1 htab).mono fun _ _ ⟨he, hb⟩ => ⟨⟨_, str_ne h, he⟩, hb⟩

/-- The library's parser where it succeeds. -/
theorem parse_ok (s : ByteArray) (hs : s.size ≤ 1048576) (v : Int) (h : Lib.parseIntB 64 s.data.toList = .ok v) (w : World) :
    Calls Tryd.prog 29 #[.string s, .int .i64 10, .int .i64 64] w fun e w' => e = .returned (.tuple #[.int .i64 v, .nilIface]) ∧ Below w.heap.size w w' :=
  (Tryd.strconv_ParseInt_10_at64_ok s (by omega) v h w).mono fun _ _ ⟨he, hw⟩ => ⟨he, by
    rcases hw with rfl | ⟨t, rfl⟩
    · exact Below.refl _ _
    · exact Lib.bytesWorld_below _ _ _⟩

/-- .. and where it fails. -/
theorem parse_err (s : ByteArray) (hs : s.size ≤ 1048576) (h : ∀ v, Lib.parseIntB 64 s.data.toList ≠ .ok v) (w : World) (hv : Lays w) :
    Calls Tryd.prog 29 #[.string s, .int .i64 10, .int .i64 64] w fun e w' => (∃ n N, e = .returned (.tuple #[.int .i64 n, .iface 75 (.pointer (some ⟨N, 0, none⟩))])) ∧ Below w.heap.size w w' := by
  cases hp : Lib.parseIntB 64 s.data.toList
  · exact absurd hp (h _)
  · obtain ⟨tp, p, hvar⟩ := hv.syn
    exact (Any.strconv_ParseInt_10_at64_syntax_var Tryd.laysC174 s (by omega) hp tp p w hvar).mono fun _ _ ⟨N, he, _, _, hb⟩ => ⟨⟨_, N, he⟩, hb⟩
  · obtain ⟨tp, p, hvar⟩ := hv.rng
    exact (Any.strconv_ParseInt_10_at64_range_var Tryd.laysC174 s (by omega) hp tp p w hvar).mono fun _ _ ⟨N, he, _, _, hb⟩ => ⟨⟨_, N, he⟩, hb⟩

theorem iRead_yes (s : ByteArray) (hs : s.size ≤ 1048576) (hr : readB s.data.toList = true) (w : World) (hv : Lays w) :
    Calls Tryd.prog 20 #[.string s] w fun e w' => e = .returned (.tuple #[.int .i64 (valD s.data.toList), .bool true]) ∧ Below w.heap.size w w' := by
  obtain ⟨v, hp, h0, h1, hi⟩ := (readB_iff _).1 hr
  have hvv : valD s.data.toList = v := by rw [← hi, valD_itoa]
  have HV := Lib.hid hvv
  have HP := Lib.hid hp
  have HI := Lib.hid hi
  have HT := Lib.hid hv.tab
  have E1 := Lib.hid (show (decide (-1000000000000000 ≤ v) && decide (v ≤ 1000000000000000)) = true by simp; omega)
  clear hr hp hi hvv hv
  go_enter Tryd.func20, Tryd.ntmps20
  go_wp2_with (first | (go_at_call 29; refine (parse_ok s hs v HP.out _).mono ?_; rintro e w1 ⟨rfl, b1⟩; have HT1 := Lib.hid (pow_tab HT.out b1)) | (go_at_call 15; refine (iVal_any _ _).mono ?_; rw [E1.out]; rintro e w' ⟨rfl, rfl⟩) | (go_at_call 17; refine (iDec_is v s _ (by omega) (by omega) HT1.out HI.out).mono ?_; rintro e w2 ⟨rfl, b2⟩))
  go_ret2
  exact ⟨by rw [HV.out]; rfl, b1.trans (b2.mono b1.size)⟩

theorem iRead_no (s : ByteArray) (hs : s.size ≤ 1048576) (hr : readB s.data.toList = false) (w : World) (hv : Lays w) :
    Calls Tryd.prog 20 #[.string s] w fun e w' => e = .returned (.tuple #[.int .i64 0, .bool false]) ∧ Below w.heap.size w w' := by
  have HT := Lib.hid hv.tab
  by_cases hp : ∃ v, Lib.parseIntB 64 s.data.toList = .ok v
  · obtain ⟨v, hp⟩ := hp
    have HP := Lib.hid hp
    have hb := Lib.parseIntB_bounds hp
    by_cases hin : -1000000000000000 ≤ v ∧ v ≤ 1000000000000000
    · have E1 := Lib.hid (show (decide (-1000000000000000 ≤ v) && decide (v ≤ 1000000000000000)) = true by simp; omega)
      have HI := Lib.hid (show Lib.itoa v ≠ s.data.toList from fun e => by
        have h3 := (readB_iff s.data.toList).2 ⟨v, hp, hin.1, hin.2, e⟩
        rw [hr] at h3; cases h3)
      have b0 := hin.1
      have b1' := hin.2
      clear hin hp hr hv hb
      go_enter Tryd.func20, Tryd.ntmps20
      go_wp2_with (first | (go_at_call 29; refine (parse_ok s hs v HP.out _).mono ?_; rintro e w1 ⟨rfl, b1⟩; have HT1 := Lib.hid (pow_tab HT.out b1)) | (go_at_call 15; refine (iVal_any _ _).mono ?_; rw [E1.out]; rintro e w' ⟨rfl, rfl⟩) | (go_at_call 17; refine (iDec_not v s _ (by omega) (by omega) HT1.out HI.out).mono ?_; rintro e w2 ⟨⟨t, ht2, rfl⟩, b2⟩))
      go_ret2
      exact ⟨rfl, b1.trans (b2.mono b1.size)⟩
    · have E1 := Lib.hid (show (decide (-1000000000000000 ≤ v) && decide (v ≤ 1000000000000000)) = false by rw [Bool.eq_false_iff]; simp; omega)
      clear hin hp hr hv hb
      go_enter Tryd.func20, Tryd.ntmps20
      go_wp2_with (first | (go_at_call 29; refine (parse_ok s hs v HP.out _).mono ?_; rintro e w1 ⟨rfl, b1⟩) | (go_at_call 15; refine (iVal_any _ _).mono ?_; rw [E1.out]; rintro e w' ⟨rfl, rfl⟩))
      go_ret2
      exact ⟨rfl, b1⟩
  · have HP := Lib.hid (fun v (e : Lib.parseIntB 64 s.data.toList = .ok v) => hp ⟨v, e⟩)
    clear hp hr
    go_enter Tryd.func20, Tryd.ntmps20
    go_wp2_with (go_at_call 29; refine (parse_err s hs HP.out _ hv).mono ?_; rintro e w1 ⟨⟨n, N, rfl⟩, b1⟩)
    go_ret2
    exact ⟨rfl, b1⟩


theorem sVal_any_no (s : ByteArray) (hr : readB s.data.toList = false) (w : World) :
    Calls Tryd.prog 26 #[.string s] w fun e w' => e = .returned (.tuple #[.int .i64 0, .bool false]) ∧ Below w.heap.size w w' := by
  by_cases h : s.size < 1 ∨ 17 < s.size
  · exact (sVal_short s w h).mono fun _ _ ⟨he, n, hw⟩ => ⟨he, by subst hw; exact below_drewN (Below.refl _ _) _⟩
  · exact sVal_no s w (by omega) (by omega) hr

end Go.Proofs.YtnipdbphfnppeadDoor
