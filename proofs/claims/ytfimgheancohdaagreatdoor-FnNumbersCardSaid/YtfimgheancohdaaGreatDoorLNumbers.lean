/- FnNumbers: for all two lists of bytes the law returns true: bits lead back to the number, flushing leaves no subnormal, a sum is that of its numbers, a text of numbers is read back, and angles, narrowing and the sine of a quarter turn are as told. The library's tables and errors are as the program's text lays them (the card ties them). No other condition. -/
import Derived.Test.YtfimgheancohdaaGreatDoorRows
import Derived.Test.YtfimgheancohdaaGreatDoorCards
import Derived.Test.YtfimgheancohdaaGreatDoorTie
import Derived.WalkKit
import Derived.ProofKit
import Derived.OpenShut
import Derived.ShutString
import Derived.ChangeOld
import Derived.Below
import Derived.Laws.Cover2
import Derived.LaidMore
import Derived.LaidSub
import Derived.MakeChecks
import Derived.Stop.Joined
import Derived.SevenTiedAt
import Derived.Lib.LaidTab
import Derived.Test.YtfimgheancohdaaGreatDoorRdF
import Derived.Test.YtfimgheancohdaaGreatDoorRtN
import Derived.Test.YtfimgheancohdaaGreatDoorAnO
import Derived.Test.YtfimgheancohdaaGreatDoorNaW
import Derived.Test.YtfimgheancohdaaGreatDoorTurns
import Derived.Test.YtfimgheancohdaaGreatDoorBn
import Derived.Test.YtfimgheancohdaaGreatDoorBz
import Derived.Test.YtfimgheancohdaaGreatDoorSum
import Derived.Deep.QuietTactic
import Derived.BigQuiet
import Derived.Test.YtfimgheancohdaaGreatDoorHs
import Derived.Stop.LaidErr
import Derived.Shelf.Vars
import Derived.Lay
namespace Go.Proofs.YtfimgheancohdaaGreatDoor.fnNumbers
open Go.ChangeShapes Go.WideShapes Go.ChangeAt Go.RowKit Go.Fl
open Go.ChangeMaps (open_string shut_string)
set_option linter.unusedVariables false
set_option linter.unusedSimpArgs false
open Go.Nl (NS)

def dB64 : List Int := [0, 1, 56, 2, 57, 49, 28, 3, 61, 58, 42, 50, 38, 29, 17, 4, 62, 47, 59, 36, 45, 43, 51, 22, 53, 39, 33, 30, 24, 18, 12, 5, 63, 55, 48, 27, 60, 41, 37, 16, 46, 35, 44, 21, 52, 32, 23, 11, 54, 26, 40, 15, 34, 20, 31, 10, 25, 14, 19, 9, 13, 8, 7, 6]
theorem gTz : Tryz.prog.globalNamed "math/bits.deBruijn64tab" = some 6 := by kernel_rfl
theorem gSyn : Tryz.prog.globalNamed "strconv.ErrSyntax" = some 3 := by kernel_rfl
theorem synType : (Tryz.prog.globals[3]?).map (·.type) = some 101 := by kernel_rfl
theorem gRng : Tryz.prog.globalNamed "strconv.ErrRange" = some 4 := by kernel_rfl
theorem rngType : (Tryz.prog.globals[4]?).map (·.type) = some 101 := by kernel_rfl
theorem star : "*" ++ "errors.errorString" = "*errors.errorString" := by decide
theorem errRow (u : TypeId) (h : Tryz.prog.typeName? 3 u = some "*errors.errorString") : u = 157 :=
  typeName_ptr_named (P := Tryz.prog) (nm := "errors.errorString") (by rw [star]; kernel_rfl) (by kernel_rfl) (by decide) u (by rw [star]; exact h)

theorem lays {W : World} (h : laidMetH Tryz.prog Rows.fnNumbersRow.laid W) : LaysF W := by
  have h1 := h.filter (fun x => x.1 == "math/bits.deBruijn64tab")
  rw [MakeChecks.laidMetH_plain _ _ _ (by kernel_rfl)] at h1 h
  have h2 : Lib.TabIs Tryz.prog W "math/bits.deBruijn64tab" .u8 dB64 := Lib.tabIs_of_head (rest := []) gTz (show (Tryz.prog.globals[6]?).map (·.type) = some 161 by kernel_rfl) Tryz.underlying161 Tryz.underlying5 (by kernel_rfl) (by kernel_rfl) h1
  have k2 := h.filter (fun x => x.1 == "strconv.ErrSyntax")
  have k3 := h.filter (fun x => x.1 == "strconv.ErrRange")
  rw [show List.filter (fun x => x.1 == "strconv.ErrSyntax") Rows.fnNumbersRow.laid = [("strconv.ErrSyntax", Rows.laid_strconv_ErrSyntax)] from by rfl] at k2
  rw [show List.filter (fun x => x.1 == "strconv.ErrRange") Rows.fnNumbersRow.laid = [("strconv.ErrRange", Rows.laid_strconv_ErrRange)] from by rfl] at k3
  obtain ⟨a1, s1, v1, _⟩ := laid_sentinel k2 gSyn synType Tryz.underlying101 errRow Tryz.underlying157 Tryz.underlying159 rfl rfl Tryz.underlying9 (by kernel_rfl) (by kernel_rfl)
  obtain ⟨a2, s2, v2, _⟩ := laid_sentinel k3 gRng rngType Tryz.underlying101 errRow Tryz.underlying157 Tryz.underlying159 rfl rfl Tryz.underlying9 (by kernel_rfl) (by kernel_rfl)
  exact ⟨⟨_, _, show W.cell? ⟨3, 0, none⟩ = _ from by have h0 := World.var?_cell gSyn v1 0; simpa using h0⟩, ⟨_, _, show W.cell? ⟨4, 0, none⟩ = _ from by have h0 := World.var?_cell gRng v2 0; simpa using h0⟩, h2.cell gTz 15 (by decide)⟩

theorem rd_text {B : Nat} {xs : List Nat} {e : Ending} {w : World} (hn : xs.length ≤ 256) (hw : ∀ x ∈ xs, x < 2 ^ FloatKind.f32.format.width) (h : RdN B (textN xs) e w) :
    ∃ v, e = .returned (.tuple #[v, .bool true]) ∧ FOwn B w v (xs.map fun x => bits32 (cn .f32 x)) := by
  rcases h with ⟨ys, v, h1, h2, h3⟩ | ⟨h1, h2⟩
  · rw [read_text xs hn hw] at h1
    obtain rfl := Option.some.inj h1
    exact ⟨v, h2, h3⟩
  · rw [read_text xs hn hw] at h1; cases h1
theorem is_bits {x X : Nat} (ix : Is .f32 x X) : Is .f32 (bits32 X) X := by
  have e := ix.eq
  subst e
  have := bits_cn_lt (by have := ix.lt; rwa [w32] at this)
  exact ⟨cn_bits x, by rw [w32]; exact this⟩
theorem back_any (X : Nat) (h : bits32 X < 4294967296) (w : World) : Calls Tryz.prog 7 #[.int .i64 (bits32 X : Int)] w fun e w' => e = .returned (.tuple #[.float .f32 (bits32 X), .bool true]) ∧ w = w' := by
  have h1 := iFromBits_yes (bits32 X : Int) (by omega) (by omega) w
  rwa [Int.toNat_natCast] at h1
theorem sine_quarter : sineT 1048576000 = 1065353216 := by decide +kernel

set_option maxHeartbeats 1000000 in
set_option maxRecDepth 100000 in
theorem walk (a0 : Option Addr) (len0 cap0 : Nat) (z0 : List Int) (a1 : Option Addr) (len1 cap1 : Nat) (z1 : List Int) (W : World) (w0 : NS .u8 W (.slice a0 len0 cap0) z0) (w1 : NS .u8 W (.slice a1 len1 cap1) z1)
    (hL : laidMetH Tryz.prog Rows.fnNumbersRow.laid W) (m : Int) (hm : W.cell? ⟨1, 0, none⟩ = some (.int .i64 m)) :
    Calls Tryz.prog 3 #[.slice a0 len0 cap0, .slice a1 len1 cap1] W fun e w' => e = .returned (.bool true) ∧ Below W.heap.size W w' := by
  have hT := Lib.hid (lays hL)
  clear hL
  have hlt0 : 1 < W.heap.size := block_lt_of_cell hm
  have HMX := Lib.hid hm
  have HC := Lib.hid w0
  have HD := Lib.hid w1
  clear hm w0 w1
  by_cases hl : (1048576 < len0 ∨ 1048576 < len1)
  · have HL := Lib.hid (show decide (1048576 < len0 ∨ 1048576 < len1) = true from decide_eq_true hl)
    clear hl
    go_enter Tryz.func3, Tryz.ntmps3
    go_wp2_with fail
    refine (zLong_any _ _ _ _ _ _ _).mono ?_; rw [HL.out]; rintro e w' ⟨rfl, rfl⟩
    go_wp2_with fail
    go_ret
    exact ⟨rfl, Below.refl _ _⟩
  have HL := Lib.hid (show decide (1048576 < len0 ∨ 1048576 < len1) = false from decide_eq_false hl)
  clear hl
  go_enter Tryz.func3, Tryz.ntmps3
  go_wp2_with fail
  refine (zLong_any _ _ _ _ _ _ _).mono ?_; rw [HL.out]; rintro e w' ⟨rfl, rfl⟩
  go_wp2_with fail
  refine (sNumber_any _ z0 _ HC.out).mono ?_
  rintro e v1 ⟨x, X, rfl, ix, b1⟩
  have HB1 := Lib.hid b1
  clear b1
  go_wp2_with fail
  refine (sNumber_any _ z1 _ (HD.out.below HB1.out)).mono ?_
  rintro e v2 ⟨y, Y, rfl, iy, b2⟩
  have HB2 := Lib.hid (HB1.out.trans (b2.mono HB1.out.size))
  clear b2 HB1
  have hbl := bits_cn_lt (by have := ix.lt; rwa [w32] at this)
  rw [ix.eq] at hbl
  have HBK := Lib.hid (back_any X hbl)
  have iq := is_bits ix
  have HIB := Lib.hid (iBitsOf_any x X ix)
  clear hbl
  generalize bits32 X = q at HBK iq HIB
  go_wp2_with (first | (go_at_call 8; refine (HIB.out _).mono ?_; rintro e w' ⟨rfl, rfl⟩) | (go_at_call 7; refine (HBK.out _).mono ?_; rintro e w' ⟨rfl, rfl⟩))
  refine (iFlushNumber_any x X ix _).mono ?_
  rintro e w' ⟨⟨f, rfl, iF⟩, n3, rfl⟩
  have HB3 := Lib.hid (below_drewN HB2.out n3)
  generalize v2.drewN n3 = v3 at HB3 ⊢
  clear HB2 HBK HIB
  go_wp2_with fail
  refine (zAt_any _ _ _ z0 12 (.inl rfl) _ (HC.out.below HB3.out)).mono ?_
  rintro e w3 ⟨⟨t, rfl, t0, t1⟩, hw3⟩
  obtain rfl := hw3.symm
  clear hw3
  obtain ⟨N, rfl⟩ : ∃ N : Nat, t = N := ⟨t.toNat, by omega⟩
  go_wp2_with fail
  refine (sNumbers_any _ z1 N _ (HD.out.below HB3.out) (by omega)).mono ?_
  rintro e v4 ⟨v, xs, rfl, hxl, hxw, hxo, b4⟩
  obtain ⟨av, cap, rfl, hfv⟩ := fown_form hxo
  have hxn : xs.length ≤ 12 := by omega
  have HXW := Lib.hid hxw
  have HO := Lib.hid hxo
  have HB4 := Lib.hid (HB3.out.trans (b4.mono HB3.out.size))
  clear b4 HB3 hxl hxw t0 t1 hfv
  have hfs := fown_FS hxo HXW.out
  have HFS := Lib.hid hfs
  clear hxo
  obtain ⟨a', cap', he, hlc, hcm, hwf, hmem⟩ := hfs
  simp only [Value.slice.injEq, true_and] at he
  obtain ⟨rfl, rfl⟩ := he
  unfold maxLen at hcm
  clear hwf
  go_wp2_with fail
  go_loopw [11, 41] (fun s i wr => ∃ k : Nat, k ≤ xs.length ∧ i = .int .i64 k ∧ (∃ r, s = .float .f32 r ∧ Is .f32 r (sumTo .f32 xs k)) ∧ ∃ n, wr = v4.drewN n) (fun _ i _ => xs.length - (intOf i).toNat)
  case atStart => exact ⟨0, Nat.zero_le _, rfl, ⟨_, rfl, Is.const rfl⟩, 0, rfl⟩
  case round =>
    obtain ⟨k, hk, rfl, ⟨r, rfl, hr⟩, n, rfl⟩ := hrel
    by_cases hlt : k < xs.length
    · rcases hmem with rfl | ⟨b, off, rfl, hb, hc⟩
      · simp at hlt
      have hcell := hc k hlt
      have hx := FS.is HXW.out k hlt
      have hs := Lib.hid (sumTo_succ .f32 xs k hlt)
      clear hc
      generalize xs.getD k 0 = u at hcell hx hs
      go_wp2_with (apply wpList_farith; rfl; rfl; rfl; rfl; (first | with_reducible assumption | exact Is.const rfl); (first | with_reducible assumption | exact Is.const rfl); intro r n hr)
      go_roundw
      case rel => exact ⟨k + 1, by omega, by go_num, ⟨_, rfl, by rw [hs.out]; assumption⟩, _, rfl⟩
      case measure => simp [intOf]; omega
    · obtain rfl : k = xs.length := by omega
      clear hlt hk
      have HR := Lib.hid hr
      have HB5 := Lib.hid (below_drewN HB4.out n)
      have HF5 := Lib.hid (HFS.out.drewN n)
      clear hr hmem HB4 HFS HO
      generalize v4.drewN n = v5 at HB5 HF5 ⊢
      go_wp2_with fail
      refine (iSumNumbers_yes _ xs _ HF5.out (by omega)).mono ?_
      rintro e w' ⟨⟨r2, rfl, hr2⟩, n6, rfl⟩
      have HR2 := Lib.hid hr2
      have HB6 := Lib.hid (below_drewN HB5.out n6)
      have HF6 := Lib.hid (HF5.out.drewN n6)
      clear hr2 HB5 HF5
      generalize v5.drewN n6 = v6 at HB6 HF6 ⊢
      go_wp2_with fail
      refine (iNumbersText_yes _ xs _ HF6.out (by omega) (hT.out.on HB6.out).tz).mono ?_
      rintro e v7 ⟨rfl, b7⟩
      have HB7 := Lib.hid (HB6.out.trans (b7.mono HB6.out.size))
      have HF7 := Lib.hid (HF6.out.below b7)
      clear b7 HB6 HF6
      have hsz : (⟨(textN xs).toArray⟩ : ByteArray).size ≤ 1048576 := by
        show (textN xs).toArray.size ≤ 1048576
        rw [List.size_toArray]; exact text_size xs (by omega)
      go_wp2_with fail
      refine (iReadNumbers_any ⟨(textN xs).toArray⟩ _ hsz (hT.out.on HB7.out) m (by rw [HB7.out.cell (p := ⟨_, 0, none⟩) hlt0]; exact HMX.out)).mono ?_
      rintro e v8 ⟨h8, b8⟩
      obtain ⟨u, rfl, ho8⟩ := rd_text (by omega) HXW.out h8
      have HB8 := Lib.hid (HB7.out.trans (b8.mono HB7.out.size))
      have HF8 := Lib.hid (HF7.out.below b8)
      have hw8 : ∀ x ∈ xs.map (fun x => bits32 (cn .f32 x)), x < 2 ^ FloatKind.f32.format.width := by
        intro x hx
        obtain ⟨y, hy, rfl⟩ := List.mem_map.1 hx
        have := HXW.out y hy
        rw [w32] at this ⊢
        exact bits_cn_lt this
      have hg8 := fown_FS ho8 hw8
      obtain ⟨a8, cap8, rfl, hlc8, hcm8, hwf8, hmem8⟩ := hg8
      rw [List.length_map] at hlc8 ⊢
      have HM8 := Lib.hid hmem8
      clear h8 b8 ho8 HB7 HF7 hw8 hwf8 hmem8
      unfold maxLen at hcm8
      have H1 := Lib.hid (fun w => by have h := sSameNumber_any q X x X iq ix w; rw [decide_eq_true rfl] at h; exact h : ∀ w : World, Calls Tryz.prog 15 #[.float .f32 q, .float .f32 x] w fun e w' => e = .returned (.bool true) ∧ w = w')
      have H2 := Lib.hid (fun w => by have h := iIsSubnormal_any f _ iF w; rw [(flush_facts X).1] at h; exact h : ∀ w : World, Calls Tryz.prog 16 #[.float .f32 f] w fun e w' => e = .returned (.bool false) ∧ ∃ n, w' = w.drewN n)
      have H3 := Lib.hid (fun w => iIsSubnormal_any x X ix w)
      have H4 := Lib.hid (fun w => sSameNumber_any x X f _ ix iF w)
      have H5 := Lib.hid (fun w => by have h := sSameNumber_any r2 _ r _ HR2.out HR.out w; rw [decide_eq_true rfl] at h; exact h : ∀ w : World, Calls Tryz.prog 15 #[.float .f32 r2, .float .f32 r] w fun e w' => e = .returned (.bool true) ∧ w = w')
      have hpp := (flush_facts X).2
      generalize decide (X = flush X) = p4 at H4 hpp
      generalize sub32 X = p3 at H3 hpp
      go_wp2_with fail
      refine (H1.out _).mono ?_
      rintro e w' ⟨rfl, rfl⟩
      go_wp2_with fail
      refine (H2.out _).mono ?_
      rintro e w' ⟨rfl, n9, rfl⟩
      go_wp2_with fail
      refine (H3.out _).mono ?_
      rintro e w' ⟨rfl, n10, rfl⟩
      go_wp2_with fail
      refine (H4.out _).mono ?_
      rintro e w' ⟨rfl, rfl⟩
      go_wp2_with fail
      refine (H5.out _).mono ?_
      rintro e w' ⟨rfl, rfl⟩
      go_wp2_with fail
      go_loopw [113] (fun i wr => ∃ k : Nat, k ≤ xs.length ∧ i = .int .i64 k ∧ ∃ n, wr = v8.drewN n) (fun i _ => xs.length - (intOf i).toNat)
      case atStart => exact ⟨0, Nat.zero_le _, rfl, _, rfl⟩
      case round =>
        clear H1 H2 H3 H4 H5 hpp
        obtain ⟨k, hk, rfl, n, rfl⟩ := hrel
        by_cases hlt : k < xs.length
        · have hg := HM8.out
          rcases hg with h0 | ⟨b8, o8, rfl, hb8, hc8⟩
          · rw [List.map_eq_nil_iff] at h0; rw [h0] at hlt; simp at hlt
          obtain ⟨a9, cap9, he9, _, _, _, hm9⟩ := HF8.out
          simp only [Value.slice.injEq, true_and] at he9
          obtain ⟨rfl, rfl⟩ := he9
          rcases hm9 with h0 | ⟨b9, o9, rfl, hb9, hc9⟩
          · rw [h0] at hlt; simp at hlt
          have c8 := hc8 k (by rw [List.length_map]; exact hlt)
          have c9 := hc9 k hlt
          have hget : (xs.map (fun x => bits32 (cn .f32 x))).getD k 0 = bits32 (cn .f32 (xs.getD k 0)) := by simp [List.getD_eq_getElem?_getD, hlt]
          rw [hget] at c8
          have ik := FS.is HXW.out k hlt
          have ib := is_bits ik
          clear hc8 hc9 hget
          generalize cn .f32 (xs.getD k 0) = U at c8 ik ib
          generalize xs.getD k 0 = u at c9 ik
          generalize bits32 U = t at c8 ib
          have HS := Lib.hid (fun w => by have h := sSameNumber_any t U u U ib ik w; rw [decide_eq_true rfl] at h; exact h : ∀ w : World, Calls Tryz.prog 15 #[.float .f32 t, .float .f32 u] w fun e w' => e = .returned (.bool true) ∧ w = w')
          go_wp2_with (first | ((with_reducible apply Loose.wp_start); kernel_rfl; kernel_rfl) | ((with_reducible apply Loose.start_cons)) | ((with_reducible apply Loose.start_nil)) | ((with_reducible apply Loose.walk_nil); intro n) | ((with_reducible apply Loose.walk_skip); exact rfl; (go_simp; first | done | exact rfl)) | ((with_reducible apply Loose.step_fc); rfl; rfl; rfl; rfl; (first | with_reducible assumption | exact Is.const rfl); (first | with_reducible assumption | exact Is.const rfl); (first | with_reducible assumption | exact rfl); exact rfl; (go_simp; first | done | exact rfl)) | ((with_reducible apply Loose.step_fa); rfl; rfl; rfl; rfl; (first | with_reducible assumption | exact Is.const rfl); (first | with_reducible assumption | exact Is.const rfl); exact rfl; (intro r; go_simp; first | done | exact rfl); intro r hr) | ((with_reducible apply Loose.step_wid); rfl; rfl; (first | with_reducible assumption | exact Is.const rfl); exact U32; exact U64; exact rfl; (intro r; go_simp; first | done | exact rfl); intro r hr) | ((with_reducible apply Loose.step_nar); rfl; rfl; (first | with_reducible assumption | exact Is.const rfl); exact U64; exact U32; (with_reducible assumption); exact rfl; (intro r; go_simp; first | done | exact rfl); intro r hr) | ((with_reducible apply Loose.step_assign); rfl; rfl; (with_reducible assumption); exact rfl; (intro r; go_simp; first | done | exact rfl); intro r hr) | ((with_reducible apply Loose.step_move); rfl; rfl; (with_reducible assumption); exact rfl; (intro r; go_simp; first | done | exact rfl); intro r hr) | ((with_reducible apply Loose.step_same); rfl; rfl; exact U32; exact U32; (first | with_reducible assumption | exact Is.const rfl); exact rfl; (intro r; go_simp; first | done | exact rfl); intro r hr) | ((with_reducible apply Loose.step_same); rfl; rfl; exact U64; exact U64; (first | with_reducible assumption | exact Is.const rfl); exact rfl; (intro r; go_simp; first | done | exact rfl); intro r hr) | ((with_reducible apply Loose.step_call); rfl; (intro n; go_simp; first | exact ⟨rfl, rfl⟩ | exact rfl); (intro n; go_at_call 15; exact Loose.same_world (HS.out _)); exact rfl; (go_simp; first | done | exact rfl)) | ((with_reducible apply Loose.step_eq); rfl; (intro n; go_simp; first | done | exact rfl); exact rfl; (go_simp; first | done | exact rfl)))
          go_roundw
          case rel => exact ⟨k + 1, by omega, by go_num, _, rfl⟩
          case measure => simp [intOf]; omega
        · obtain rfl : k = xs.length := by omega
          clear hlt hk
          go_wp2_with fail
          refine (iAngle_any y Y x X iy ix _).mono ?_
          rintro e w' ⟨⟨g1, rfl, ig1⟩, n1, rfl⟩
          go_wp2_with fail
          refine (iAngleOf_any y Y x X iy ix _).mono ?_
          rintro e w' ⟨⟨g2, rfl, ig2⟩, n2, rfl⟩
          have HS1 := Lib.hid (fun w => by have h := sSameNumber_any g1 _ g2 _ ig1 ig2 w; rw [decide_eq_true rfl] at h; exact h : ∀ w : World, Calls Tryz.prog 15 #[.float .f32 g1, .float .f32 g2] w fun e w' => e = .returned (.bool true) ∧ w = w')
          go_wp2_with fail
          refine (HS1.out _).mono ?_
          rintro e w' ⟨rfl, rfl⟩
          go_wp2_with (apply wpList_wid; rfl; rfl; (first | with_reducible assumption | exact Is.const rfl); exact U32; exact U64; intro r n hr)
          refine (iNarrow_any _ _ (by assumption) (wid_fits ix.lt' ix.canon) _).mono ?_
          rintro e w' ⟨⟨h1, rfl, ih⟩, n3, rfl⟩
          rw [nar_wid ix.lt' ix.canon] at ih
          have HS2 := Lib.hid (fun w => by have h := sSameNumber_any h1 _ x _ ih ix w; rw [decide_eq_true rfl] at h; exact h : ∀ w : World, Calls Tryz.prog 15 #[.float .f32 h1, .float .f32 x] w fun e w' => e = .returned (.bool true) ∧ w = w')
          go_wp2_with fail
          refine (HS2.out _).mono ?_
          rintro e w' ⟨rfl, rfl⟩
          go_wp2_with fail
          refine (iSineTurns_any 1048576000 1048576000 (Is.const rfl) _).mono ?_
          rintro e w' ⟨⟨s1, rfl, is1⟩, n4, rfl⟩
          rw [sine_quarter] at is1
          go_wp2_with (apply wpList_fcmp; rfl; rfl; rfl; rfl; (first | with_reducible assumption | exact Is.const rfl); (first | with_reducible assumption | exact Is.const rfl); (first | with_reducible assumption | exact rfl))
          go_ret
          exact ⟨rfl, below_drewN HB8.out _⟩

/-! ### from the walk to the statement -/
theorem own : ownKnob Tryz.prog.godebug = none := by kernel_rfl
theorem laidOut : laidOutB Tryz.prog = true := by kernel_rfl
set_option maxRecDepth 100000 in
theorem lifted (os : Os) (started : os.Started) (H : Type) (enc : TypeId × Value → H) :
    ReturnsInHanded {} Tryz.checked os 3 .any (fun w args => (Rows.fnNumbersSpec.pre enc Tryz.prog Tryz.f3 [] false w args ∧ laidMetH Tryz.prog Rows.fnNumbersRow.laid w) ∧ sizedMet enc Tryz.prog Tryz.f3 (OpenSpec.ofChange Rows.fnNumbersSpec) false w args)
      (Rows.fnNumbersSpec.post enc Tryz.prog Tryz.f3 false true false false) := by
  refine handed_shaped (C := Tryz.checked) own started (by kernel_rfl) Tryz.func3
    (ChangeSpec.witness_shaped (enc := enc) (C := Tryz.checked) (os := os) (X := fun w _ => laidMetH Tryz.prog Rows.fnNumbersRow.laid w) false (World.laidAll Tryz.prog os Rows.fnNumbersRow.laid) #[.slice none 0 0, .slice none 0 0] 8 (World.laidAll_os _ _ _) (World.shaped_of_ZipB (by kernel_rfl) (by kernel_rfl)) (by kernel_rfl) (by kernel_rfl) (by kernel_rfl) (by rw [MakeChecks.laidMetH_plain _ _ _ (by kernel_rfl)]; exact laidMet_laidAll _ (by kernel_rfl) (by kernel_rfl))) ?_
  intro W base args ds gs before hval0 hW hL hS
  obtain ⟨m, hm⟩ := cell_of_shapedOpen_int (k := .i64) (g := 1) (t := 3) (zero := #[.int .i64 0]) hS (of_decide_eq_true (by kernel_rfl)) (by kernel_rfl) rfl (by kernel_rfl) (by kernel_rfl) Tryz.underlying3
  have hval : ∀ (j : Nat) t v, Tryz.f3.params[j]? = some t → args[j]? = some v → Value.okWide Tryz.prog W .any base t v := hval0
  have hW' := hW
  obtain ⟨p, q, hA0, hV, rfl, hfz, hnd⟩ := hW
  have hA : DataW.TrodAll enc Tryz.prog W 0 (fun _ => true) true Tryz.f3.params.toList args.toList ds p := hA0
  rw [Tryz.params3] at hA hval
  obtain ⟨v0, vs0, d0, ds0, p0, q0, hargs, rfl, rfl, h0, r0⟩ := trodAll_cons hA
  obtain ⟨v1, vs1, d1, ds1, p1, q1, rfl, rfl, rfl, h1, r1⟩ := trodAll_cons r0
  obtain ⟨rfl, rfl, rfl⟩ := trodAll_nil r1
  obtain rfl : args = #[v0, v1] := by cases args; simp_all
  obtain ⟨rfl, rfl⟩ := trodVars_none hV
  obtain ⟨a0, len0, cap0, rfl⟩ := okWide_slice Tryz.underlying22 (hval 0 22 v0 rfl rfl)
  have k0 := h0
  have lt0 : ∀ x ∈ p0, x.block < W.heap.size := by obtain ⟨m, hm⟩ := k0; exact DataW.trod_lt m _ _ _ hm
  obtain ⟨z0, w0⟩ : ∃ zs, Nl.NS .u8 W (.slice a0 len0 cap0) zs := Nl.open_nums Tryz.underlying22 Tryz.underlying5 (by kernel_rfl) h0
  obtain ⟨a1, len1, cap1, rfl⟩ := okWide_slice Tryz.underlying22 (hval 1 22 v1 rfl rfl)
  have k1 := h1
  have lt1 : ∀ x ∈ p1, x.block < W.heap.size := by obtain ⟨m, hm⟩ := k1; exact DataW.trod_lt m _ _ _ hm
  obtain ⟨z1, w1⟩ : ∃ zs, Nl.NS .u8 W (.slice a1 len1 cap1) zs := Nl.open_nums Tryz.underlying22 Tryz.underlying5 (by kernel_rfl) h1
  clear hA0 hval0
  refine (walk a0 len0 cap0 z0 a1 len1 cap1 z1 W w0 w1 hL m hm).mono fun e W' ⟨he, bel⟩ => ?_
  subst he
  exact ⟨_, rfl, _, _, _, [], _, [], hW', trodAll_mk1 (shut_bool Tryz.underlying4 _), (trodAll_cons_mk (Below.trod laidOut (by kernel_rfl) (of_decide_eq_true (by kernel_rfl)) k0 bel lt0) (trodAll_cons_mk (Below.trod laidOut (by kernel_rfl) (of_decide_eq_true (by kernel_rfl)) k1 bel lt1) trodAll_mk0)), rfl, bel.frame _, fun h => by cases h⟩

theorem over : Rows.FnNumbersSaid :=
  OpenClaim.holds_of_wide 3 Tryz.f3 rfl rfl rfl rfl rfl rfl rfl ⟨rfl, rfl, rfl, rfl, rfl⟩ rfl rfl rfl rfl rfl (by kernel_rfl) Tryz.func3 (by kernel_rfl)
    (of_decide_eq_true (by kernel_rfl)) (by unfold Func.isWrapper; first | (rw [if_pos (by decide +kernel)]; kernel_rfl) | (rw [if_neg (by decide +kernel)]; exact ⟨rfl, rfl⟩))
    (fun os started H enc _ => lifted os started H enc)

/-- The card: what the program's text lays is tied to it. -/
theorem proved : Rows.FnNumbersCardSaid :=
  Claim7.holds_tied_plain_at .later [] _ _ _ _ over (fun _ h => by cases h) (by kernel_rfl) (fun _ h => by cases h) fnNumbers_row_tie rfl ⟨rfl, rfl⟩ (by kernel_rfl) rfl
    (fun f fn hf hfn => by
      obtain rfl : f = 3 := Option.some.inj ((show Tryz.prog.funcNamed Rows.fnNumbersRow.func = some 3 by kernel_rfl).symm.trans hf) |>.symm
      obtain rfl : fn = Tryz.f3 := (Option.some.inj (Tryz.func3.symm.trans hfn)).symm
      exact ⟨by kernel_rfl, fun j t ht => by
        rw [Tryz.params3] at ht
        have hm : t ∈ Tryz.f3.params.toList := by rw [Tryz.params3]; simpa using Array.mem_of_getElem? ht
        rw [Tryz.params3] at hm
        have hall : ((Tryz.f3.params.toList).all fun u => !Tryz.prog.wantsStandIn u) = true := by kernel_rfl
        rw [Tryz.params3] at hall
        exact (show Tryz.prog.wantsStandIn t = false by simpa using List.all_eq_true.1 hall t hm)⟩)
    (by kernel_rfl)
#print axioms proved
end Go.Proofs.YtfimgheancohdaaGreatDoor.fnNumbers
