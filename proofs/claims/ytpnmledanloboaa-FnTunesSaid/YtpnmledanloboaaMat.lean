/-
  Matrices of four numbers, of the program (arrays by value) and of the model (lists).
-/
import Derived.Test.YtpnmledanloboaaOwn
import Derived.Test.YtpnmledanloboaaLop
import Derived.Laws.Cover3
import Derived.Laws.CopyOwn
namespace Go.Proofs.Ytpnmledanloboaa
open Go.Fl Go.RowKit
set_option linter.unusedSimpArgs false
set_option linter.unusedVariables false

abbrev MC (a b c d : Nat) : Array Value := #[.float .f32 a, .float .f32 b, .float .f32 c, .float .f32 d]
abbrev MV (a b c d : Nat) : Value := .agg (MC a b c d)
abbrev MO (a b c d : Nat) : Obj := .cells (MC a b c d) 78
def detF (m : Nat → Nat) : Nat := fop .sub .f32 (fop .mul .f32 (m 0) (m 3)) (fop .mul .f32 (m 1) (m 2))
def trF (m : Nat → Nat) : Nat := fop .add .f32 (m 0) (m 3)
def timesF (m n : Nat → Nat) (j : Nat) : Nat :=
  if j = 0 then fop .add .f32 (fop .mul .f32 (m 0) (n 0)) (fop .mul .f32 (m 1) (n 2))
  else if j = 1 then fop .add .f32 (fop .mul .f32 (m 0) (n 1)) (fop .mul .f32 (m 1) (n 3))
  else if j = 2 then fop .add .f32 (fop .mul .f32 (m 2) (n 0)) (fop .mul .f32 (m 3) (n 2))
  else fop .add .f32 (fop .mul .f32 (m 2) (n 1)) (fop .mul .f32 (m 3) (n 3))
def atL (z : List Nat) (j : Nat) : Nat := cn .f32 (z.getD j 0)
def okDetOf (z : List Nat) : Bool := decide (z.length = 4)
def valDetOf (z : List Nat) : Nat := if z.length = 4 then detF (atL z) else 0
def okTraceOf (z : List Nat) : Bool := decide (z.length = 4)
def valTraceOf (z : List Nat) : Nat := if z.length = 4 then trF (atL z) else 0
def okTimesMatrix (y z : List Nat) : Bool := decide (y.length = 4) && decide (z.length = 4)
def lenTimesMatrix (y z : List Nat) : Nat := if okTimesMatrix y z then 4 else 0
theorem lenTimesMatrix_le (y z : List Nat) (_ : y.length ≤ 1048576) (_ : z.length ≤ 1048576) : lenTimesMatrix y z ≤ 1048576 := by unfold lenTimesMatrix; split <;> omega
/-- Four numbers and what they stand for. -/
structure Is4 (a b c d : Nat) (m : Nat → Nat) : Prop where
  i0 : Is .f32 a (m 0)
  i1 : Is .f32 b (m 1)
  i2 : Is .f32 c (m 2)
  i3 : Is .f32 d (m 3)
theorem four_of {z : List Nat} (h : z.length = 4) : ∃ a b c d, z = [a, b, c, d] := by
  match z, h with
  | [a, b, c, d], _ => exact ⟨a, b, c, d, rfl⟩
theorem is4_list {a b c d : Nat} (h : ∀ x ∈ [a, b, c, d], x < 2 ^ FloatKind.f32.format.width) : Is4 a b c d (atL [a, b, c, d]) :=
  ⟨Is.of_lt (h a (by simp)), Is.of_lt (h b (by simp)), Is.of_lt (h c (by simp)), Is.of_lt (h d (by simp))⟩
theorem eqs4 {a b c d : Nat} {m : Nat → Nat} (h : Is4 a b c d m) : Eqs [a, b, c, d] m := by
  intro j hj
  have : j = 0 ∨ j = 1 ∨ j = 2 ∨ j = 3 := by simp at hj; omega
  rcases this with rfl | rfl | rfl | rfl
  · exact h.i0
  · exact h.i1
  · exact h.i2
  · exact h.i3
theorem mone (a b c d : Nat) : (MC a b c d).all (·.oneCell') = true := by first | rfl | (simp [Value.oneCell']; done)
theorem info_m4 : (Try.prog.info? 78).map (·.size) = some 4 := by kernel_rfl
/-- What FS tells of four numbers. -/
theorem fs4 {w : World} {v : Value} {a b c d : Nat} (h : FS .f32 w v [a, b, c, d]) : ∃ B o cap, v = .slice (some ⟨B, o, none⟩) 4 cap ∧ B < w.heap.size ∧
    (w.cell? ⟨B, o, none⟩ = some (.float .f32 a) ∧ w.cell? ⟨B, o + 1, none⟩ = some (.float .f32 b) ∧ w.cell? ⟨B, o + 2, none⟩ = some (.float .f32 c) ∧ w.cell? ⟨B, o + 3, none⟩ = some (.float .f32 d)) ∧ cap ≤ maxLen ∧ 4 ≤ cap := by
  obtain ⟨a1, cap, rfl, hlc, hcm, hwf, hmem⟩ := h
  rcases hmem with h0 | ⟨B, o, rfl, hb, hc⟩
  · cases h0
  · exact ⟨B, o, cap, rfl, hb, ⟨hc 0 (by simp), hc 1 (by simp), hc 2 (by simp), hc 3 (by simp)⟩, hcm, hlc⟩

theorem two_newM (w : World) (o1 o2 : Obj) : ((w.alloc o1).alloc o2).heap[w.heap.size]? = some o1 ∧ ((w.alloc o1).alloc o2).heap[w.heap.size + 1]? = some o2 ∧ Below w.heap.size w ((w.alloc o1).alloc o2) ∧ ((w.alloc o1).alloc o2).heap.size = w.heap.size + 2 := by
  refine ⟨?_, ?_, ((Below.refl _ _).alloc (Nat.le_refl _) _).alloc (by simp) _, by simp⟩
  · rw [heap_alloc_old _ _ (by simp), heap_alloc_new]
  · have := heap_alloc_new (w.alloc o1) o2
    rwa [World.size_alloc] at this
theorem three_newM (w : World) (o1 o2 o3 : Obj) : (((w.alloc o1).alloc o2).alloc o3).heap[w.heap.size]? = some o1 ∧ (((w.alloc o1).alloc o2).alloc o3).heap[w.heap.size + 1]? = some o2 ∧ (((w.alloc o1).alloc o2).alloc o3).heap[w.heap.size + 1 + 1]? = some o3 ∧ Below w.heap.size w (((w.alloc o1).alloc o2).alloc o3) ∧ (((w.alloc o1).alloc o2).alloc o3).heap.size = w.heap.size + 3 := by
  obtain ⟨h1, h2, h3, h4⟩ := two_newM w o1 o2
  refine ⟨?_, ?_, ?_, h3.alloc (by omega) _, by simp⟩
  · rw [heap_alloc_old _ _ (by omega), h1]
  · rw [heap_alloc_old _ _ (by omega), h2]
  · have := heap_alloc_new ((w.alloc o1).alloc o2) o3
    rwa [h4] at this

theorem iDet_any (a b c d : Nat) (m : Nat → Nat) (h : Is4 a b c d m) (w : World) : Calls Try.prog 62 #[MV a b c d] w fun e w' => (∃ r, e = .returned (.float .f32 r) ∧ Is .f32 r (detF m)) ∧ Below w.heap.size w w' := by
  obtain ⟨i0, i1, i2, i3⟩ := h
  have HB := Lib.hid ((Below.refl w.heap.size w).alloc (Nat.le_refl _) (MO a b c d))
  go_enter Try.func62, Try.ntmps62
  go_wp2_with (apply wpList_farith; rfl; rfl; rfl; rfl; (first | with_reducible assumption | exact Is.const rfl); (first | with_reducible assumption | exact Is.const rfl); intro r n hr)
  go_ret
  exact ⟨⟨_, rfl, by unfold detF; assumption⟩, below_drewN HB.out _⟩
theorem iTrace_any (a b c d : Nat) (m : Nat → Nat) (h : Is4 a b c d m) (w : World) : Calls Try.prog 63 #[MV a b c d] w fun e w' => (∃ r, e = .returned (.float .f32 r) ∧ Is .f32 r (trF m)) ∧ Below w.heap.size w w' := by
  obtain ⟨i0, i1, i2, i3⟩ := h
  have HB := Lib.hid ((Below.refl w.heap.size w).alloc (Nat.le_refl _) (MO a b c d))
  go_enter Try.func63, Try.ntmps63
  go_wp2_with (apply wpList_farith; rfl; rfl; rfl; rfl; (first | with_reducible assumption | exact Is.const rfl); (first | with_reducible assumption | exact Is.const rfl); intro r n hr)
  go_ret
  exact ⟨⟨_, rfl, by unfold trF; assumption⟩, below_drewN HB.out _⟩

set_option maxHeartbeats 1000000 in
set_option maxRecDepth 100000 in
theorem iTimes_any (a b c d p q r s : Nat) (m n : Nat → Nat) (h : Is4 a b c d m) (k : Is4 p q r s n) (w : World) : Calls Try.prog 65 #[MV a b c d, MV p q r s] w fun e w' => (∃ x y z u, e = .returned (MV x y z u) ∧ Is4 x y z u (timesF m n)) ∧ Below w.heap.size w w' := by
  obtain ⟨i0, i1, i2, i3⟩ := h
  obtain ⟨j0, j1, j2, j3⟩ := k
  obtain ⟨n1, n2, n3, n4, n5⟩ := three_newM w (MO a b c d) (MO p q r s) (MO 0 0 0 0)
  have HB := Lib.hid n4; have HZ := Lib.hid n3
  have HZD := Lib.hid (show ∀ m, ((((w.alloc (MO a b c d)).alloc (MO p q r s)).alloc (MO 0 0 0 0)).drewN m).heap[w.heap.size + 1 + 1]? = some (MO 0 0 0 0) from fun _ => HZ.out)
  clear n1 n2 n3 n4 n5
  go_enter Try.func65, Try.ntmps65
  go_wp2_with (first
    | (apply wpList_farith; rfl; rfl; rfl; rfl; (first | with_reducible assumption | exact Is.const rfl); (first | with_reducible assumption | exact Is.const rfl); intro r n hr)
    | ((with_reducible show wpList _ _ _ (Oper.mk none (Op.store _ _ _) _ _ _ _ :: _) _ _); refine wpList_store_row rfl 78 _ _ rfl (w.heap.size + 1 + 1) _ rfl rfl 78 _ HZ.out info_m4 rfl (mone _ _ _ _) ?_))
  refine bodyPost_ret (results_cell_row rfl _ _ (w.heap.size + 1 + 1) 78 (MC _ _ _ _) (0, 0) _ rfl (setRow_heap _ _ _ _ _ _ (HZD.out _)) Try.underlying78 rfl info_m4) rfl ?_
  exact ⟨⟨_, _, _, _, rfl, ⟨by assumption, by assumption, by assumption, by assumption⟩⟩, below_setRow (below_drewN HB.out _) (by omega) _⟩

set_option maxHeartbeats 1000000 in
theorem iFrom_yes (v : Value) (a b c d : Nat) (w : World) (hv : FS .f32 w v [a, b, c, d]) : Calls Try.prog 61 #[v] w fun e w' => e = .returned (.tuple #[MV a b c d, .bool true]) ∧ Below w.heap.size w w' := by
  obtain ⟨B, o, cap, rfl, hb, ⟨c0, c1, c2, c3⟩, _⟩ := fs4 hv
  have HB := Lib.hid ((Below.refl w.heap.size w).alloc (Nat.le_refl _) (MO 0 0 0 0))
  have HZ := Lib.hid (heap_alloc_new w (MO 0 0 0 0))
  have hat : ∀ w, (Instr.arrayAt 78 (.slice (some ⟨B, o, none⟩) 4 cap)).run Try.prog w = .ok (.pointer (some ⟨B, o, none⟩)) w := fun w => run_arrayAt w 78 _ 4 _ 4 cap Try.underlying78 (Nat.le_refl _)
  go_enter Try.func61, Try.ntmps61
  go_wp2_with (simp only [hat])
  have hres : Try.f61.results = #[.cell 2 78, .tmp 3] := by kernel_rfl
  refine bodyPost_ret (v := .tuple #[MV a b c d, .bool true]) ?_ rfl ⟨rfl, (Below.refl w.heap.size w).alloc (Nat.le_refl _) _⟩
  simp only [results, hres]
  go_simp
theorem iFrom_no (v : Value) (z : List Nat) (w : World) (hv : FS .f32 w v z) (hz : z.length ≠ 4) : Calls Try.prog 61 #[v] w fun e w' => e = .returned (.tuple #[MV 0 0 0 0, .bool false]) ∧ Below w.heap.size w w' := by
  obtain ⟨a, cap, rfl, hlc, hcm, hwf, hmem⟩ := hv
  unfold maxLen at hcm
  have hd : ((z.length : Int) == 4) = false := by simpa using (fun h => hz (by exact_mod_cast h))
  have hd2 : decide ((z.length : Int) = 4) = false := by simpa using (fun h => hz (by exact_mod_cast h))
  have hd3 : ¬ ((z.length : Int) = 4) := fun h => hz (by exact_mod_cast h)
  clear hmem
  go_enter Try.func61, Try.ntmps61
  go_wp2
  have hres : Try.f61.results = #[.cell 2 78, .tmp 3] := by kernel_rfl
  refine bodyPost_ret (v := .tuple #[MV 0 0 0 0, .bool false]) ?_ rfl ⟨rfl, (Below.refl w.heap.size w).alloc (Nat.le_refl _) _⟩
  simp only [results, hres]
  go_simp

/-- What a matrix taken of a list stands for. -/
def fromL (z : List Nat) (j : Nat) : Nat := if z.length = 4 then atL z j else 0
theorem iFrom_any (v : Value) (z : List Nat) (w : World) (hv : FS .f32 w v z) : Calls Try.prog 61 #[v] w fun e w' => (∃ a b c d, e = .returned (.tuple #[MV a b c d, .bool (decide (z.length = 4))]) ∧ Is4 a b c d (fromL z)) ∧ Below w.heap.size w w' := by
  by_cases hz : z.length = 4
  · have hl : ∀ x ∈ z, x < 2 ^ FloatKind.f32.format.width := by obtain ⟨_, _, _, _, _, h, _⟩ := hv; exact h
    obtain ⟨a, b, c, d, rfl⟩ := four_of hz
    refine (iFrom_yes v a b c d w hv).mono ?_
    rintro e w' ⟨rfl, hb⟩
    have := is4_list hl
    exact ⟨⟨a, b, c, d, rfl, by simpa [fromL] using this.i0, by simpa [fromL] using this.i1, by simpa [fromL] using this.i2, by simpa [fromL] using this.i3⟩, hb⟩
  · refine (iFrom_no v z w hv hz).mono ?_
    rintro e w' ⟨rfl, hb⟩
    have e0 : ∀ j, fromL z j = 0 := fun j => if_neg hz
    refine ⟨⟨0, 0, 0, 0, by rw [decide_eq_false hz], ?_, ?_, ?_, ?_⟩, hb⟩ <;> rw [e0] <;> exact Is.const rfl
theorem zero_det : fop .sub .f32 (fop .mul .f32 0 0) (fop .mul .f32 0 0) = 0 ∧ fop .add .f32 0 0 = 0 := by decide +kernel
theorem det_from (z : List Nat) : detF (fromL z) = valDetOf z := by
  unfold valDetOf
  split
  · rename_i h; simp [detF, fromL, h]
  · rename_i h; simp [detF, fromL, h]; exact zero_det.1
theorem tr_from (z : List Nat) : trF (fromL z) = valTraceOf z := by
  unfold valTraceOf
  split
  · rename_i h; simp [trF, fromL, h]
  · rename_i h; simp [trF, fromL, h]; exact zero_det.2

theorem iDetOf_any (v : Value) (z : List Nat) (w : World) (hv : FS .f32 w v z) (hn : z.length ≤ 1048576) : Calls Try.prog 17 #[v] w fun e w' => (∃ r, e = .returned (.tuple #[.float .f32 r, .bool (okDetOf z)]) ∧ Is .f32 r (valDetOf z)) ∧ Below w.heap.size w w' := by
  have HV := Lib.hid hv
  clear hv
  go_enter Try.func17, Try.ntmps17
  go_wp2_with fail
  refine (iFrom_any v z _ HV.out).mono ?_
  rintro e w1 ⟨⟨a, b, c, d, rfl, h4⟩, hb⟩
  have H4 := Lib.hid h4; have HB := Lib.hid hb
  clear h4 hb
  have HB2 := Lib.hid (HB.out.alloc HB.out.size (MO a b c d))
  go_wp2_with fail
  refine (iDet_any a b c d _ H4.out _).mono ?_
  rintro e w2 ⟨⟨r, rfl, hr⟩, hb2⟩
  rw [det_from] at hr
  go_wp2_with fail
  go_ret2
  exact ⟨⟨r, rfl, hr⟩, HB2.out.trans (hb2.mono HB2.out.size)⟩
theorem iTraceOf_any (v : Value) (z : List Nat) (w : World) (hv : FS .f32 w v z) (hn : z.length ≤ 1048576) : Calls Try.prog 21 #[v] w fun e w' => (∃ r, e = .returned (.tuple #[.float .f32 r, .bool (okTraceOf z)]) ∧ Is .f32 r (valTraceOf z)) ∧ Below w.heap.size w w' := by
  have HV := Lib.hid hv
  clear hv
  go_enter Try.func21, Try.ntmps21
  go_wp2_with fail
  refine (iFrom_any v z _ HV.out).mono ?_
  rintro e w1 ⟨⟨a, b, c, d, rfl, h4⟩, hb⟩
  have H4 := Lib.hid h4; have HB := Lib.hid hb
  clear h4 hb
  have HB2 := Lib.hid (HB.out.alloc HB.out.size (MO a b c d))
  go_wp2_with fail
  refine (iTrace_any a b c d _ H4.out _).mono ?_
  rintro e w2 ⟨⟨r, rfl, hr⟩, hb2⟩
  rw [tr_from] at hr
  go_wp2_with fail
  go_ret2
  exact ⟨⟨r, rfl, hr⟩, HB2.out.trans (hb2.mono HB2.out.size)⟩

/-! ### the model -/
theorem sDetOf_any (v : Value) (z : List Nat) (w : World) (hv : FS .f32 w v z) (hn : z.length ≤ 1048576) : Calls Try.prog 15 #[v] w fun e w' => (∃ r, e = .returned (.tuple #[.float .f32 r, .bool (okDetOf z)]) ∧ Is .f32 r (valDetOf z)) ∧ Below w.heap.size w w' := by
  unfold okDetOf valDetOf
  by_cases hz : z.length = 4
  · have hl : ∀ x ∈ z, x < 2 ^ FloatKind.f32.format.width := by obtain ⟨_, _, _, _, _, h, _⟩ := hv; exact h
    obtain ⟨a, b, c, d, rfl⟩ := four_of hz
    obtain ⟨i0, i1, i2, i3⟩ := is4_list hl
    obtain ⟨B, o, cap, rfl, hb, ⟨c0, c1, c2, c3⟩, _⟩ := fs4 hv
    rw [if_pos hz, decide_eq_true hz]
    clear hv hl
    go_enter Try.func15, Try.ntmps15
    go_wp2_with (first | ((with_reducible apply Loose.wp_start); kernel_rfl; kernel_rfl) | ((with_reducible apply Loose.start_cons)) | ((with_reducible apply Loose.start_nil)) | ((with_reducible apply Loose.walk_nil); intro n) | ((with_reducible apply Loose.walk_skip); exact rfl; (go_simp; first | done | exact rfl)) | ((with_reducible apply Loose.step_fc); rfl; rfl; rfl; rfl; (first | with_reducible assumption | exact Is.const rfl); (first | with_reducible assumption | exact Is.const rfl); (first | with_reducible assumption | exact rfl); exact rfl; (go_simp; first | done | exact rfl)) | ((with_reducible apply Loose.step_fa); rfl; rfl; rfl; rfl; (first | with_reducible assumption | exact Is.const rfl); (first | with_reducible assumption | exact Is.const rfl); exact rfl; (intro r; go_simp; first | done | exact rfl); intro r hr) | ((with_reducible apply Loose.step_wid); rfl; rfl; (first | with_reducible assumption | exact Is.const rfl); exact U32; exact U64; exact rfl; (intro r; go_simp; first | done | exact rfl); intro r hr) | ((with_reducible apply Loose.step_nar); rfl; rfl; (first | with_reducible assumption | exact Is.const rfl); exact U64; exact U32; (with_reducible assumption); exact rfl; (intro r; go_simp; first | done | exact rfl); intro r hr) | ((with_reducible apply Loose.step_assign); rfl; rfl; (with_reducible assumption); exact rfl; (intro r; go_simp; first | done | exact rfl); intro r hr) | ((with_reducible apply Loose.step_move); rfl; rfl; (with_reducible assumption); exact rfl; (intro r; go_simp; first | done | exact rfl); intro r hr) | ((with_reducible apply Loose.step_same); rfl; rfl; exact U32; exact U32; (first | with_reducible assumption | exact Is.const rfl); exact rfl; (intro r; go_simp; first | done | exact rfl); intro r hr) | ((with_reducible apply Loose.step_same); rfl; rfl; exact U64; exact U64; (first | with_reducible assumption | exact Is.const rfl); exact rfl; (intro r; go_simp; first | done | exact rfl); intro r hr) | ((with_reducible apply Loose.step_eq); rfl; (intro n; go_simp; first | done | exact rfl); exact rfl; (go_simp; first | done | exact rfl)))
    go_ret2
    exact ⟨⟨_, rfl, by unfold detF; assumption⟩, below_drewN (Below.refl _ _) _⟩
  · obtain ⟨a, cap, rfl, hlc, hcm, hwf, hmem⟩ := hv
    unfold maxLen at hcm
    have hd3 : ¬ ((z.length : Int) = 4) := fun h => hz (by exact_mod_cast h)
    rw [if_neg hz, decide_eq_false hz]
    clear hmem
    go_enter Try.func15, Try.ntmps15
    go_wp2
    go_ret2
    exact ⟨⟨_, rfl, Is.const rfl⟩, Below.refl _ _⟩
theorem sTraceOf_any (v : Value) (z : List Nat) (w : World) (hv : FS .f32 w v z) (hn : z.length ≤ 1048576) : Calls Try.prog 20 #[v] w fun e w' => (∃ r, e = .returned (.tuple #[.float .f32 r, .bool (okTraceOf z)]) ∧ Is .f32 r (valTraceOf z)) ∧ Below w.heap.size w w' := by
  unfold okTraceOf valTraceOf
  by_cases hz : z.length = 4
  · have hl : ∀ x ∈ z, x < 2 ^ FloatKind.f32.format.width := by obtain ⟨_, _, _, _, _, h, _⟩ := hv; exact h
    obtain ⟨a, b, c, d, rfl⟩ := four_of hz
    obtain ⟨i0, i1, i2, i3⟩ := is4_list hl
    obtain ⟨B, o, cap, rfl, hb, ⟨c0, c1, c2, c3⟩, _⟩ := fs4 hv
    rw [if_pos hz, decide_eq_true hz]
    clear hv hl
    go_enter Try.func20, Try.ntmps20
    go_wp2_with (first | ((with_reducible apply Loose.wp_start); kernel_rfl; kernel_rfl) | ((with_reducible apply Loose.start_cons)) | ((with_reducible apply Loose.start_nil)) | ((with_reducible apply Loose.walk_nil); intro n) | ((with_reducible apply Loose.walk_skip); exact rfl; (go_simp; first | done | exact rfl)) | ((with_reducible apply Loose.step_fc); rfl; rfl; rfl; rfl; (first | with_reducible assumption | exact Is.const rfl); (first | with_reducible assumption | exact Is.const rfl); (first | with_reducible assumption | exact rfl); exact rfl; (go_simp; first | done | exact rfl)) | ((with_reducible apply Loose.step_fa); rfl; rfl; rfl; rfl; (first | with_reducible assumption | exact Is.const rfl); (first | with_reducible assumption | exact Is.const rfl); exact rfl; (intro r; go_simp; first | done | exact rfl); intro r hr) | ((with_reducible apply Loose.step_wid); rfl; rfl; (first | with_reducible assumption | exact Is.const rfl); exact U32; exact U64; exact rfl; (intro r; go_simp; first | done | exact rfl); intro r hr) | ((with_reducible apply Loose.step_nar); rfl; rfl; (first | with_reducible assumption | exact Is.const rfl); exact U64; exact U32; (with_reducible assumption); exact rfl; (intro r; go_simp; first | done | exact rfl); intro r hr) | ((with_reducible apply Loose.step_assign); rfl; rfl; (with_reducible assumption); exact rfl; (intro r; go_simp; first | done | exact rfl); intro r hr) | ((with_reducible apply Loose.step_move); rfl; rfl; (with_reducible assumption); exact rfl; (intro r; go_simp; first | done | exact rfl); intro r hr) | ((with_reducible apply Loose.step_same); rfl; rfl; exact U32; exact U32; (first | with_reducible assumption | exact Is.const rfl); exact rfl; (intro r; go_simp; first | done | exact rfl); intro r hr) | ((with_reducible apply Loose.step_same); rfl; rfl; exact U64; exact U64; (first | with_reducible assumption | exact Is.const rfl); exact rfl; (intro r; go_simp; first | done | exact rfl); intro r hr) | ((with_reducible apply Loose.step_eq); rfl; (intro n; go_simp; first | done | exact rfl); exact rfl; (go_simp; first | done | exact rfl)))
    go_ret2
    exact ⟨⟨_, rfl, by unfold trF; assumption⟩, below_drewN (Below.refl _ _) _⟩
  · obtain ⟨a, cap, rfl, hlc, hcm, hwf, hmem⟩ := hv
    unfold maxLen at hcm
    have hd3 : ¬ ((z.length : Int) = 4) := fun h => hz (by exact_mod_cast h)
    rw [if_neg hz, decide_eq_false hz]
    clear hmem
    go_enter Try.func20, Try.ntmps20
    go_wp2
    go_ret2
    exact ⟨⟨_, rfl, Is.const rfl⟩, Below.refl _ _⟩

theorem fown4 (B : Nat) (w : World) (a b c d : Nat) {t : TypeId} (h : B ≤ w.heap.size) (ht : t = 23 := by rfl) : FOwn B (w.alloc (.cells #[.float .f32 a, .float .f32 b, .float .f32 c, .float .f32 d] t)) (.slice (some ⟨w.heap.size, 0, none⟩) 4 4) [a, b, c, d] := by
  subst ht
  exact ⟨by simp, .inr ⟨w.heap.size, 4, _, rfl, h, heap_alloc_new w _, Nat.le_refl _, by decide, rfl, by simp⟩⟩
set_option maxHeartbeats 1000000 in
set_option maxRecDepth 100000 in
theorem sTimes_any (u v : Value) (a b c d p q r s : Nat) (w : World) (hu : FS .f32 w u [a, b, c, d]) (hv : FS .f32 w v [p, q, r, s]) : Calls Try.prog 64 #[u, v] w fun e w' => (∃ v, e = .returned v ∧ FRes w.heap.size w' v 4 (timesF (atL [a, b, c, d]) (atL [p, q, r, s]))) ∧ Below w.heap.size w w' := by
  have hl : ∀ x ∈ [a, b, c, d], x < 2 ^ FloatKind.f32.format.width := by obtain ⟨_, _, _, _, _, h, _⟩ := hu; exact h
  have hl2 : ∀ x ∈ [p, q, r, s], x < 2 ^ FloatKind.f32.format.width := by obtain ⟨_, _, _, _, _, h, _⟩ := hv; exact h
  obtain ⟨i0, i1, i2, i3⟩ := is4_list hl
  obtain ⟨j0, j1, j2, j3⟩ := is4_list hl2
  obtain ⟨B, o, cap, rfl, hb, ⟨c0, c1, c2, c3⟩, _⟩ := fs4 hu
  obtain ⟨D, k, cap', rfl, hb', ⟨d0, d1, d2, d3⟩, _⟩ := fs4 hv
  clear hu hv hl hl2
  go_enter Try.func64, Try.ntmps64
  go_wp2_with (first | ((with_reducible apply Loose.wp_start_pre 60); kernel_rfl; kernel_rfl; (simp only [List.take_succ_cons, List.take_zero]; exact rfl); (simp only [List.drop_succ_cons, List.drop_zero]; exact rfl)) | ((with_reducible apply Loose.wp_start); kernel_rfl; kernel_rfl) | ((with_reducible apply Loose.start_cons)) | ((with_reducible apply Loose.start_nil)) | ((with_reducible apply Loose.walk_nil); intro n) | ((with_reducible apply Loose.walk_skip); exact rfl; (go_simp; first | done | exact rfl)) | ((with_reducible apply Loose.step_fc); rfl; rfl; rfl; rfl; (first | with_reducible assumption | exact Is.const rfl); (first | with_reducible assumption | exact Is.const rfl); (first | with_reducible assumption | exact rfl); exact rfl; (go_simp; first | done | exact rfl)) | ((with_reducible apply Loose.step_fa); rfl; rfl; rfl; rfl; (first | with_reducible assumption | exact Is.const rfl); (first | with_reducible assumption | exact Is.const rfl); exact rfl; (intro r; go_simp; first | done | exact rfl); intro r hr) | ((with_reducible apply Loose.step_wid); rfl; rfl; (first | with_reducible assumption | exact Is.const rfl); exact U32; exact U64; exact rfl; (intro r; go_simp; first | done | exact rfl); intro r hr) | ((with_reducible apply Loose.step_nar); rfl; rfl; (first | with_reducible assumption | exact Is.const rfl); exact U64; exact U32; (with_reducible assumption); exact rfl; (intro r; go_simp; first | done | exact rfl); intro r hr) | ((with_reducible apply Loose.step_assign); rfl; rfl; (with_reducible assumption); exact rfl; (intro r; go_simp; first | done | exact rfl); intro r hr) | ((with_reducible apply Loose.step_move); rfl; rfl; (with_reducible assumption); exact rfl; (intro r; go_simp; first | done | exact rfl); intro r hr) | ((with_reducible apply Loose.step_same); rfl; rfl; exact U32; exact U32; (first | with_reducible assumption | exact Is.const rfl); exact rfl; (intro r; go_simp; first | done | exact rfl); intro r hr) | ((with_reducible apply Loose.step_same); rfl; rfl; exact U64; exact U64; (first | with_reducible assumption | exact Is.const rfl); exact rfl; (intro r; go_simp; first | done | exact rfl); intro r hr) | ((with_reducible apply Loose.step_eq); rfl; (intro n; go_simp; first | done | exact rfl); exact rfl; (go_simp; first | done | exact rfl)))
  go_ret
  exact ⟨⟨_, rfl, _, rfl, eqs4 ⟨by assumption, by assumption, by assumption, by assumption⟩, fown4 _ _ _ _ _ _ (by simp)⟩, (below_drewN (Below.refl _ _) _).alloc (Nat.le_refl _) _⟩

end Go.Proofs.Ytpnmledanloboaa
