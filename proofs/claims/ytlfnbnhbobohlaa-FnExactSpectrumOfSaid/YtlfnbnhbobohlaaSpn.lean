/-
  Spectra of lists, of the program: spun.
-/
import Derived.Test.YtlfnbnhbobohlaaSpc
import Derived.Test.YtlfnbnhbobohlaaFby
import Derived.Deep.Cut
import Derived.Deep.CutRange
namespace Go.Proofs.Ytlfnbnhbobohlaa
open Go.Fl Go.RowKit
open Go.Joins (ownsRow_le)
set_option linter.unusedSimpArgs false
set_option linter.unusedVariables false

/-- A step of a region that draws its order: a list is made. -/
theorem hstep_make {P : Program} {ops : Array Oper} {o : Oper} {a : Act} {w : World} {K : Act → World → Prop} {Q : Exit → Act → World → Prop} {E : Prop} (hgd : o.guard = none) (l c : Operand) (t : TypeId) (hop : o.op = .makeSlice t l c)
    (base : Nat) (e : TypeId) (i : TypeInfo) (z : Value) (h1 : P.underlying t = some (.slice e)) (h2 : P.info? e = some i) (h3 : i.zero = some z) (h4 : i.size = 1) (kl kc : IntKind) (n : Nat) (hl : a.eval l = .int kl (n : Int)) (hc : a.eval c = .int kc (n : Int)) (b2 : i.bytes * n ≤ 281474976710656) (b3 : n ≤ maxLen) (b4 : base ≤ w.heap.size)
    (h : ∀ w', w'.ownsRow base e 1 (.slice (some ⟨w.heap.size, 0, none⟩) n n) n (madeCells z.cells (n * 1)).toList → w.grownBy w' none → K (a.put o.dst (.slice (some ⟨w.heap.size, 0, none⟩) n n)) w') :
    if Region.wanted o (yielded ops a.tmps) = true then Oper.wp P o a w K Q else E := by
  have hw : Region.wanted o (yielded ops a.tmps) = true := by simp [Region.wanted, hgd]
  rw [if_pos hw]
  obtain ⟨w', hrun, r1, r2⟩ := run_make_full (P := P) w base t e i z 1 h1 h2 h3 h4 kl kc n b2 b3 b4
  unfold Oper.wp
  simp [execOp, hop, hl, hc, hrun, Result.andThen]
  exact h w' r1 r2
theorem made_zeroC (n : Nat) : (madeCells (Value.complex .f32 0 0).cells (n * 1)).toList = (List.replicate n (0, 0)).map cV := by
  rw [Nat.mul_one]
  exact (toList_madeCells_one (.complex .f32 0 0) n).trans (by simp [cV])
theorem box_put {W : World} {b : Nat} {u : Value} {t : TypeId} (h : W.heap[b]? = some (.cells #[u] t)) (v : Value) : (W.setCell ⟨b, 0, none⟩ v).heap[b]? = some (.cells #[v] t) := by
  simp [World.setCell, Array.getElem?_modify, h]

/-- A list of complex numbers under way: the first ones, zeros behind them. -/
def ptC (rs : List (Nat × Nat)) (n : Nat) : List Value := rs.map cV ++ List.replicate (n - rs.length) (.complex .f32 0 0)
theorem ptC_zero (n : Nat) : ptC [] n = (List.replicate n (0, 0)).map cV := by simp [ptC, cV]
theorem ptC_all (rs : List (Nat × Nat)) : ptC rs rs.length = rs.map cV := by simp [ptC]
theorem ptC_set (rs : List (Nat × Nat)) (n r s : Nat) (h : rs.length < n) : (ptC rs n).set rs.length (.complex .f32 r s) = ptC (rs ++ [(r, s)]) n := by
  unfold ptC
  rw [List.set_append_right _ _ (by simp)]
  rw [List.length_map, Nat.sub_self, show n - rs.length = (n - (rs ++ [(r, s)]).length) + 1 by simp; omega, List.replicate_succ, List.set_cons_zero]
  simp [cV]
theorem ptC_get (rs : List (Nat × Nat)) (n : Nat) (h : rs.length < n) : (ptC rs n)[rs.length]? = some (.complex .f32 0 0) := by
  unfold ptC
  rw [List.getElem?_append_right (by simp), List.length_map, Nat.sub_self, List.getElem?_replicate, if_pos (by omega)]

theorem scalePoint_any (a A b B y Y : Nat) (ia : Is .f32 a A) (ib : Is .f32 b B) (iy : Is .f32 y Y) (w : World) : Calls Try.prog 116 #[.float .f32 y, .complex .f32 a b] w fun e w' =>
    (∃ r s, e = .returned (.complex .f32 r s) ∧ Is .f32 r (fop .mul .f32 A Y) ∧ Is .f32 s (fop .mul .f32 B Y)) ∧ ∃ n, w' = w.drewN n := by
  go_enter Try.func116, Try.ntmps116
  go_wp2_with fail
  refine (iScaleC_any a A b B y Y ia ib iy _).mono ?_; rintro e w' ⟨⟨r, s, rfl, hr, hs⟩, n, rfl⟩
  go_wp2_with fail
  go_ret
  exact ⟨⟨_, _, rfl, hr, hs⟩, _, rfl⟩

set_option maxHeartbeats 2000000 in
set_option maxRecDepth 100000 in
theorem spun1_any (k m : Nat) (v : Value) (xs : List Nat) (gP : Nat) (rs : List (Nat × Nat)) (kf kl kb km kn : Nat) (w : World) (hn : xs.length ≤ 16) (hk : k < xs.length) (hm : m < xs.length) (hv : FS .f32 w v xs)
    (hf : w.cell? ⟨kf, 0, none⟩ = some (.func (.func 116) #[] #[])) (hl : w.cell? ⟨kl, 0, none⟩ = some v) (hb : w.cell? ⟨kb, 0, none⟩ = some (.slice (some ⟨gP, 0, none⟩) xs.length xs.length)) (hc : w.cell? ⟨km, 0, none⟩ = some (.int .i64 (m : Int))) (hd : w.cell? ⟨kn, 0, none⟩ = some (.int .i64 (xs.length : Int)))
    (hr : ∀ p, p < xs.length → w.cell? ⟨gP, p, none⟩ = some (.complex .f32 (rs.getD p (0, 0)).1 (rs.getD p (0, 0)).2)) (he : ∀ p, p < xs.length → Is .f32 (rs.getD p (0, 0)).1 (phRe (turnF p xs.length)) ∧ Is .f32 (rs.getD p (0, 0)).2 (phIm (turnF p xs.length))) :
    Calls Try.prog 136 #[.int .i64 (k : Int), .pointer (some ⟨kf, 0, none⟩), .pointer (some ⟨kl, 0, none⟩), .pointer (some ⟨kb, 0, none⟩), .pointer (some ⟨km, 0, none⟩), .pointer (some ⟨kn, 0, none⟩)] w fun e w' =>
      (∃ r s, e = .returned (.complex .f32 r s) ∧ Is .f32 r (fop .mul .f32 (phRe (turnF (k * m % xs.length) xs.length)) (cn .f32 (xs.getD k 0))) ∧ Is .f32 s (fop .mul .f32 (phIm (turnF (k * m % xs.length) xs.length)) (cn .f32 (xs.getD k 0)))) ∧ Below w.heap.size w w' := by
  obtain ⟨p, q, hq, hp, hqb, hpn, e1, e2, e3, e4, i1, i2⟩ := spec_place hk hm hn
  rw [← hq, ← hp]
  have HV := hv
  obtain ⟨a1, c1, rfl, hlc, hcm, hwf, hmem⟩ := hv
  have ix := FS.is hwf k hk
  obtain ⟨b1, o1, he1, hcx⟩ := FS.at HV (Below.refl _ _) hk
  obtain rfl := he1
  have hcp := hr p hpn
  obtain ⟨ia, ib⟩ := he p hpn
  generalize phRe (turnF p xs.length) = A at ia ⊢
  generalize phIm (turnF p xs.length) = B at ib ⊢
  generalize cn .f32 (xs.getD k 0) = X at ix ⊢
  generalize xs.getD k 0 = x at hcx ix
  generalize (rs.getD p (0, 0)).1 = ra at hcp ia
  generalize (rs.getD p (0, 0)).2 = rb at hcp ib
  have i3 : (k : Int) < (xs.length : Int) := by omega
  have i4 : ¬ ((xs.length : Int) = 0) := by omega
  have i5 : ¬ (xs = []) := by intro h; rw [h] at hk; simp at hk
  have HSC := Lib.hid (scalePoint_any ra A rb B x X ia ib ix)
  clear hq hp hqb hpn hr he HV hlc hcm hwf hmem ia ib ix
  go_enter Try.func136, Try.ntmps136
  go_wp2_with (first | ((with_reducible apply Loose.wp_start); kernel_rfl; kernel_rfl) | ((with_reducible apply Loose.start_cons)) | ((with_reducible apply Loose.start_nil)) | ((with_reducible apply Loose.walk_nil); intro n) | ((with_reducible apply Loose.walk_skip); exact rfl; (go_simp; first | done | exact rfl)) | ((with_reducible apply Loose.step_fc); rfl; rfl; rfl; rfl; (first | with_reducible assumption | exact Is.const rfl); (first | with_reducible assumption | exact Is.const rfl); (first | with_reducible assumption | exact rfl); exact rfl; (go_simp; first | done | exact rfl)) | ((with_reducible apply Loose.step_fa); rfl; rfl; rfl; rfl; (first | with_reducible assumption | exact Is.const rfl); (first | with_reducible assumption | exact Is.const rfl); exact rfl; (intro r; go_simp; first | done | exact rfl); intro r hr) | ((with_reducible apply Loose.step_wid); rfl; rfl; (first | with_reducible assumption | exact Is.const rfl); exact U32; exact U64; exact rfl; (intro r; go_simp; first | done | exact rfl); intro r hr) | ((with_reducible apply Loose.step_nar); rfl; rfl; (first | with_reducible assumption | exact Is.const rfl); exact U64; exact U32; (with_reducible assumption); exact rfl; (intro r; go_simp; first | done | exact rfl); intro r hr) | ((with_reducible apply Loose.step_assign); rfl; rfl; (with_reducible assumption); exact rfl; (intro r; go_simp; first | done | exact rfl); intro r hr) | ((with_reducible apply Loose.step_move); rfl; rfl; (with_reducible assumption); exact rfl; (intro r; go_simp; first | done | exact rfl); intro r hr) | ((with_reducible apply Loose.step_same); rfl; rfl; exact U32; exact U32; (first | with_reducible assumption | exact Is.const rfl); exact rfl; (intro r; go_simp; first | done | exact rfl); intro r hr) | ((with_reducible apply Loose.step_same); rfl; rfl; exact U64; exact U64; (first | with_reducible assumption | exact Is.const rfl); exact rfl; (intro r; go_simp; first | done | exact rfl); intro r hr) | ((with_reducible apply Loose.step_callC); rfl; (intro n; go_simp; first | exact ⟨rfl, rfl⟩ | exact rfl); (intro n; go_at_call 116; exact HSC.out _); exact rfl; (intro r s; go_simp; first | done | exact rfl); intro r1 s1 hr1 hs1) | ((with_reducible apply Loose.step_assignC); rfl; rfl; (with_reducible exact hr1); (with_reducible exact hs1); exact rfl; (intro r s; go_simp; first | done | exact rfl); intro r2 s2 hr2 hs2) | ((with_reducible apply Loose.step_eq); rfl; (intro n; go_simp; first | done | exact rfl); exact rfl; (go_simp; first | done | exact rfl)))
  go_ret
  exact ⟨⟨_, _, rfl, hr2, hs2⟩, below_drewN (Below.refl _ _) _⟩

set_option maxHeartbeats 20000000 in
set_option maxRecDepth 100000 in
theorem spun32_any (v : Value) (xs : List Nat) (w : World) (hv : FS .f32 w v xs) (hn : xs.length ≤ 16) (h0 : 0 < xs.length) :
    Calls Try.prog 115 #[v, .func (.func 116) #[] #[], .func (.func 117) #[] #[]] w fun e w' => (∃ r, e = .returned r ∧ CRes w.heap.size w' r xs.length (specRe xs) (specIm xs)) ∧ Below w.heap.size w w' := by
  obtain ⟨i0, hi, hz0, hz1, hz2⟩ := info_parts C32info
  have HU := Lib.hid hv
  obtain ⟨a1, c1, rfl, hlc, hcm, hwf, hmem⟩ := hv
  have HWF := Lib.hid hwf
  have HI := Lib.hid hi; have HZ0 := Lib.hid hz0; have HZ1 := Lib.hid hz1
  have hb4 : i0.bytes * xs.length ≤ 281474976710656 := by rw [hz2]; omega
  have hml : xs.length ≤ maxLen := by unfold maxLen; omega
  obtain ⟨n1, n2, n3, n4, n5⟩ := three_new w (.cells #[.slice a1 xs.length c1] 24) (.cells #[.func (.func 116) #[] #[]] 135) (.cells #[.int .i64 (xs.length : Int)] 3)
  have HLB := Lib.hid (bx_of n1); have HFB := Lib.hid (bx_of n2); have HNB := Lib.hid (bx_of n3); have HB := Lib.hid n4
  have HK7 := Lib.hid (show w.heap.size + 1 + 1 < (((w.alloc (.cells #[.slice a1 xs.length c1] 24)).alloc (.cells #[.func (.func 116) #[] #[]] 135)).alloc (.cells #[.int .i64 (xs.length : Int)] 3)).heap.size by omega)
  clear hmem hlc hcm hwf hi hz0 hz1 hz2 n1 n2 n3 n4 n5
  go_enter Try.func115, Try.ntmps115
  go_upto_region 2 with fail
  generalize ((w.alloc (.cells #[.slice a1 xs.length c1] 24)).alloc (.cells #[.func (.func 116) #[] #[]] 135)).alloc (.cells #[.int .i64 (xs.length : Int)] 3) = w1 at HLB HFB HNB HB HK7 ⊢
  go_cut [8, 9] from 14 to 17 (fun u1 u2 wx => ∃ gb gP gS, u1 = .pointer (some ⟨gb, 0, none⟩) ∧ u2 = .slice (some ⟨gS, 0, none⟩) xs.length xs.length ∧ Hid (gb ≠ gP ∧ gb ≠ gS ∧ gP ≠ gS) ∧ Hid (wx.heap[gb]? = some (.cells #[.slice (some ⟨gP, 0, none⟩) xs.length xs.length] 35)) ∧ Hid (wx.ownsRow w1.heap.size 41 1 (.slice (some ⟨gP, 0, none⟩) xs.length xs.length) xs.length ((List.replicate xs.length (0, 0)).map cV)) ∧ Hid (wx.ownsRow w1.heap.size 41 1 (.slice (some ⟨gS, 0, none⟩) xs.length xs.length) xs.length ((List.replicate xs.length (0, 0)).map cV)) ∧ Hid (Below w1.heap.size w1 wx))
  case first =>
    have hc7 := HNB.out.cell
    refine wp_region_noPanic ?_
    refine wp_region_held_drew (S := fun w' => w'.cell? ⟨w.heap.size + 1 + 1, 0, none⟩ = some (.int .i64 (xs.length : Int))) (by kernel_rfl) hc7 (fun hHeld => ?_)
    have HC7 := Lib.hid hc7
    have hd0 := (Below.refl w1.heap.size w1).drew
    clear hc7
    generalize w1.drew = v0 at hHeld hd0 ⊢
    ((refine wpAnyH_take (i := 0) (v := ?_) rfl (by kernel_rfl) (by kernel_rfl) (by kernel_rfl) (fun _ _ _ h => h) (Or.inl ⟨by rfl, ?_⟩) (by assumption) ?_; rotate_left; (· intro w hSw; (try dsimp only at hSw); go_simp; first | done | with_reducible rfl); (try simp only [List.getElem_toArray, List.getElem_cons_zero, List.getElem_cons_succ, Act.put, List.setIfInBounds_toArray, List.set_cons_zero, List.set_cons_succ])); (refine wpAnyH_take (i := 2) (v := ?_) rfl (by kernel_rfl) (by kernel_rfl) (by kernel_rfl) (fun _ _ _ h => h) (Or.inl ⟨by rfl, ?_⟩) (by assumption) ?_; rotate_left; (· intro w hSw; (try dsimp only at hSw); go_simp; first | done | with_reducible rfl); (try simp only [List.getElem_toArray, List.getElem_cons_zero, List.getElem_cons_succ, Act.put, List.setIfInBounds_toArray, List.set_cons_zero, List.set_cons_succ])))
    refine wpAnyH_ready (rs := [1, 3, 4]) (by kernel_rfl) (by simp) ?_
    refine AllReadyH.cons (i := 1) rfl (fun K hK => ?_) (AllReadyH.cons (i := 3) rfl (fun K hK => ?_) (AllReadyH.cons (i := 4) rfl (fun K hK => ?_) AllReadyH.nil))
    · refine hstep_make rfl _ _ _ rfl w1.heap.size 41 i0 _ Try.underlying35 HI.out HZ0.out HZ1.out _ _ xs.length rfl rfl hb4 hml hd0.size ?_
      intro v1 ho0 hg0
      have hd0 := hd0.grown hg0 hd0.size (fun k h => by cases h)
      rw [made_zeroC] at ho0
      have lgP0 := (ho0.lt v0.heap.size rfl).2
      generalize v0.heap.size = gP at ho0 lgP0 ⊢
      (refine hK.out _ _ ((by rw [hd0.cell (p := ⟨w.heap.size + 1 + 1, 0, none⟩) HK7.out]; exact HC7.out)) (fun hHeld => ?_); clear hK K; (try simp only [List.getElem_toArray, List.getElem_cons_zero, List.getElem_cons_succ, Act.put, List.setIfInBounds_toArray, List.set_cons_zero, List.set_cons_succ]))
      refine wpAnyH_ready (rs := [3, 4]) (by kernel_rfl) (by simp) ?_
      refine AllReadyH.cons (i := 3) rfl (fun K hK => ?_) (AllReadyH.cons (i := 4) rfl (fun K hK => ?_) AllReadyH.nil)
      · refine hstep_make rfl _ _ _ rfl w1.heap.size 41 i0 _ Try.underlying35 HI.out HZ0.out HZ1.out _ _ xs.length rfl rfl hb4 hml hd0.size ?_
        intro v2 ho1 hg1
        have hd1 := hd0.grown hg1 hd0.size (fun k h => by cases h)
        rw [made_zeroC] at ho1
        have lgS1 := (ho1.lt v1.heap.size rfl).2
        have lgP1 := Nat.lt_of_lt_of_le lgP0 hg1.size
        have o11 := World.ownsRow.kept ho0 hg1 (.inr (by simp [Value.ownBlock]))
        generalize v1.heap.size = gS at ho1 lgS1 lgP0 ⊢
        (refine hK.out _ _ ((by rw [hd1.cell (p := ⟨w.heap.size + 1 + 1, 0, none⟩) HK7.out]; exact HC7.out)) (fun hHeld => ?_); clear hK K; (try simp only [List.getElem_toArray, List.getElem_cons_zero, List.getElem_cons_succ, Act.put, List.setIfInBounds_toArray, List.set_cons_zero, List.set_cons_succ]))
        (refine wpAnyH_ready (rs := [4]) (by kernel_rfl) (by simp) ?_; refine AllReadyH.cons (i := 4) rfl (fun K hK => ?_) AllReadyH.nil)
        go_simp
        have hlo := hd1.size
        have hd2 := hd1.alloc hd1.size (.cells #[.slice none 0 0] 35)
        have b2 := heap_alloc_new v2 (.cells #[.slice none 0 0] 35)
        have lgb2 : v2.heap.size < (v2.alloc (.cells #[.slice none 0 0] 35)).heap.size := by simp
        have lgP2 : gP < (v2.alloc (.cells #[.slice none 0 0] 35)).heap.size := Nat.lt_trans lgP1 lgb2
        have lgS2 : gS < (v2.alloc (.cells #[.slice none 0 0] 35)).heap.size := Nat.lt_trans lgS1 lgb2
        have o12 := World.ownsRow.alloc o11 (.cells #[.slice none 0 0] 35)
        have o32 := World.ownsRow.alloc ho1 (.cells #[.slice none 0 0] 35)
        generalize (v2.alloc (.cells #[.slice none 0 0] 35)) = v3 at hd2 b2 lgb2 lgP2 lgS2 o12 o32 ⊢
        generalize v2.heap.size = gb at b2 lgb2 hlo lgP1 lgS1 ⊢
        (refine hK.out _ _ ((by rw [hd2.cell (p := ⟨w.heap.size + 1 + 1, 0, none⟩) HK7.out]; exact HC7.out)) (fun hHeld => ?_); clear hK K; (try simp only [List.getElem_toArray, List.getElem_cons_zero, List.getElem_cons_succ, Act.put, List.setIfInBounds_toArray, List.set_cons_zero, List.set_cons_succ]))
        (refine wpAnyH_ready (rs := [5]) (by kernel_rfl) (by simp) ?_; refine AllReadyH.cons (i := 5) rfl (fun K hK => ?_) AllReadyH.nil)
        have cb3 : v3.cell? ⟨gb, 0, none⟩ = some (.slice none 0 0) := by rw [Go.Joins.cell_of_block b2]; rfl
        have fb3 : v3.frozen? ⟨gb, 0, none⟩ = false := by simp [World.frozen?, b2]
        go_simp
        have hG3 := grown_cell v3 ⟨gb, 0, none⟩ (.slice (some ⟨gP, 0, none⟩) xs.length xs.length)
        have hd3 := hd2.grown hG3 hd2.size (fun k h => by cases h; exact hlo)
        have b3 := box_put b2 (.slice (some ⟨gP, 0, none⟩) xs.length xs.length)
        have lgb3 := Nat.lt_of_lt_of_le lgb2 hG3.size
        have lgP3 := Nat.lt_of_lt_of_le lgP2 hG3.size
        have lgS3 := Nat.lt_of_lt_of_le lgS2 hG3.size
        have o13 := World.ownsRow.kept o12 hG3 (.inr (by simp [Value.ownBlock]; omega))
        have o33 := World.ownsRow.kept o32 hG3 (.inr (by simp [Value.ownBlock]; omega))
        clear hG3 cb3 fb3
        generalize v3.setCell ⟨gb, 0, none⟩ (.slice (some ⟨gP, 0, none⟩) xs.length xs.length) = v4 at hd3 b3 lgb3 lgP3 lgS3 o13 o33 ⊢
        (refine hK.out _ _ ((by rw [hd3.cell (p := ⟨w.heap.size + 1 + 1, 0, none⟩) HK7.out]; exact HC7.out)) (fun hHeld => ?_); clear hK K; (try simp only [List.getElem_toArray, List.getElem_cons_zero, List.getElem_cons_succ, Act.put, List.setIfInBounds_toArray, List.set_cons_zero, List.set_cons_succ]))
        ((refine wpAnyH_take (i := 6) (v := ?_) rfl (by kernel_rfl) (by kernel_rfl) (by kernel_rfl) (fun _ _ _ h => h) (Or.inl ⟨by rfl, ?_⟩) (by assumption) ?_; rotate_left; (· intro w hSw; (try dsimp only at hSw); go_simp; first | done | with_reducible rfl); (try simp only [List.getElem_toArray, List.getElem_cons_zero, List.getElem_cons_succ, Act.put, List.setIfInBounds_toArray, List.set_cons_zero, List.set_cons_succ])))
        (refine wpAnyH_done (by kernel_rfl) ?_ _; refine NoPanic.normal ?_)
        go_wp2_with fail
        go_meet
        case rel => exact ⟨gb, gP, gS, rfl, rfl, Lib.hid (by omega), Lib.hid b3, Lib.hid o13, Lib.hid o33, Lib.hid hd3⟩
      · go_simp
        have hlo := hd0.size
        have hd1 := hd0.alloc hd0.size (.cells #[.slice none 0 0] 35)
        have b1 := heap_alloc_new v1 (.cells #[.slice none 0 0] 35)
        have lgb1 : v1.heap.size < (v1.alloc (.cells #[.slice none 0 0] 35)).heap.size := by simp
        have lgP1 : gP < (v1.alloc (.cells #[.slice none 0 0] 35)).heap.size := Nat.lt_trans lgP0 lgb1
        have o11 := World.ownsRow.alloc ho0 (.cells #[.slice none 0 0] 35)
        generalize (v1.alloc (.cells #[.slice none 0 0] 35)) = v2 at hd1 b1 lgb1 lgP1 o11 ⊢
        generalize v1.heap.size = gb at b1 lgb1 hlo lgP0 ⊢
        (refine hK.out _ _ ((by rw [hd1.cell (p := ⟨w.heap.size + 1 + 1, 0, none⟩) HK7.out]; exact HC7.out)) (fun hHeld => ?_); clear hK K; (try simp only [List.getElem_toArray, List.getElem_cons_zero, List.getElem_cons_succ, Act.put, List.setIfInBounds_toArray, List.set_cons_zero, List.set_cons_succ]))
        refine wpAnyH_ready (rs := [3, 5]) (by kernel_rfl) (by simp) ?_
        refine AllReadyH.cons (i := 3) rfl (fun K hK => ?_) (AllReadyH.cons (i := 5) rfl (fun K hK => ?_) AllReadyH.nil)
        · refine hstep_make rfl _ _ _ rfl w1.heap.size 41 i0 _ Try.underlying35 HI.out HZ0.out HZ1.out _ _ xs.length rfl rfl hb4 hml hd1.size ?_
          intro v3 ho2 hg2
          have hd2 := hd1.grown hg2 hd1.size (fun k h => by cases h)
          rw [made_zeroC] at ho2
          have lgS2 := (ho2.lt v2.heap.size rfl).2
          have lgb2 := Nat.lt_of_lt_of_le lgb1 hg2.size
          have lgP2 := Nat.lt_of_lt_of_le lgP1 hg2.size
          have o12 := World.ownsRow.kept o11 hg2 (.inr (by simp [Value.ownBlock]))
          have b2 := (hg2.block gb lgb1 (by simp)).trans b1
          generalize v2.heap.size = gS at ho2 lgS2 lgb1 lgP1 ⊢
          (refine hK.out _ _ ((by rw [hd2.cell (p := ⟨w.heap.size + 1 + 1, 0, none⟩) HK7.out]; exact HC7.out)) (fun hHeld => ?_); clear hK K; (try simp only [List.getElem_toArray, List.getElem_cons_zero, List.getElem_cons_succ, Act.put, List.setIfInBounds_toArray, List.set_cons_zero, List.set_cons_succ]))
          (refine wpAnyH_ready (rs := [5]) (by kernel_rfl) (by simp) ?_; refine AllReadyH.cons (i := 5) rfl (fun K hK => ?_) AllReadyH.nil)
          have cb3 : v3.cell? ⟨gb, 0, none⟩ = some (.slice none 0 0) := by rw [Go.Joins.cell_of_block b2]; rfl
          have fb3 : v3.frozen? ⟨gb, 0, none⟩ = false := by simp [World.frozen?, b2]
          go_simp
          have hG3 := grown_cell v3 ⟨gb, 0, none⟩ (.slice (some ⟨gP, 0, none⟩) xs.length xs.length)
          have hd3 := hd2.grown hG3 hd2.size (fun k h => by cases h; exact hlo)
          have b3 := box_put b2 (.slice (some ⟨gP, 0, none⟩) xs.length xs.length)
          have lgb3 := Nat.lt_of_lt_of_le lgb2 hG3.size
          have lgP3 := Nat.lt_of_lt_of_le lgP2 hG3.size
          have lgS3 := Nat.lt_of_lt_of_le lgS2 hG3.size
          have o13 := World.ownsRow.kept o12 hG3 (.inr (by simp [Value.ownBlock]; omega))
          have o33 := World.ownsRow.kept ho2 hG3 (.inr (by simp [Value.ownBlock]; omega))
          clear hG3 cb3 fb3
          generalize v3.setCell ⟨gb, 0, none⟩ (.slice (some ⟨gP, 0, none⟩) xs.length xs.length) = v4 at hd3 b3 lgb3 lgP3 lgS3 o13 o33 ⊢
          (refine hK.out _ _ ((by rw [hd3.cell (p := ⟨w.heap.size + 1 + 1, 0, none⟩) HK7.out]; exact HC7.out)) (fun hHeld => ?_); clear hK K; (try simp only [List.getElem_toArray, List.getElem_cons_zero, List.getElem_cons_succ, Act.put, List.setIfInBounds_toArray, List.set_cons_zero, List.set_cons_succ]))
          ((refine wpAnyH_take (i := 6) (v := ?_) rfl (by kernel_rfl) (by kernel_rfl) (by kernel_rfl) (fun _ _ _ h => h) (Or.inl ⟨by rfl, ?_⟩) (by assumption) ?_; rotate_left; (· intro w hSw; (try dsimp only at hSw); go_simp; first | done | with_reducible rfl); (try simp only [List.getElem_toArray, List.getElem_cons_zero, List.getElem_cons_succ, Act.put, List.setIfInBounds_toArray, List.set_cons_zero, List.set_cons_succ])))
          (refine wpAnyH_done (by kernel_rfl) ?_ _; refine NoPanic.normal ?_)
          go_wp2_with fail
          go_meet
          case rel => exact ⟨gb, gP, gS, rfl, rfl, Lib.hid (by omega), Lib.hid b3, Lib.hid o13, Lib.hid o33, Lib.hid hd3⟩
        · have cb2 : v2.cell? ⟨gb, 0, none⟩ = some (.slice none 0 0) := by rw [Go.Joins.cell_of_block b1]; rfl
          have fb2 : v2.frozen? ⟨gb, 0, none⟩ = false := by simp [World.frozen?, b1]
          go_simp
          have hG2 := grown_cell v2 ⟨gb, 0, none⟩ (.slice (some ⟨gP, 0, none⟩) xs.length xs.length)
          have hd2 := hd1.grown hG2 hd1.size (fun k h => by cases h; exact hlo)
          have b2 := box_put b1 (.slice (some ⟨gP, 0, none⟩) xs.length xs.length)
          have lgb2 := Nat.lt_of_lt_of_le lgb1 hG2.size
          have lgP2 := Nat.lt_of_lt_of_le lgP1 hG2.size
          have o12 := World.ownsRow.kept o11 hG2 (.inr (by simp [Value.ownBlock]; omega))
          clear hG2 cb2 fb2
          generalize v2.setCell ⟨gb, 0, none⟩ (.slice (some ⟨gP, 0, none⟩) xs.length xs.length) = v3 at hd2 b2 lgb2 lgP2 o12 ⊢
          (refine hK.out _ _ ((by rw [hd2.cell (p := ⟨w.heap.size + 1 + 1, 0, none⟩) HK7.out]; exact HC7.out)) (fun hHeld => ?_); clear hK K; (try simp only [List.getElem_toArray, List.getElem_cons_zero, List.getElem_cons_succ, Act.put, List.setIfInBounds_toArray, List.set_cons_zero, List.set_cons_succ]))
          (refine wpAnyH_ready (rs := [3]) (by kernel_rfl) (by simp) ?_; refine AllReadyH.cons (i := 3) rfl (fun K hK => ?_) AllReadyH.nil)
          refine hstep_make rfl _ _ _ rfl w1.heap.size 41 i0 _ Try.underlying35 HI.out HZ0.out HZ1.out _ _ xs.length rfl rfl hb4 hml hd2.size ?_
          intro v4 ho3 hg3
          have hd3 := hd2.grown hg3 hd2.size (fun k h => by cases h)
          rw [made_zeroC] at ho3
          have lgS3 := (ho3.lt v3.heap.size rfl).2
          have lgb3 := Nat.lt_of_lt_of_le lgb2 hg3.size
          have lgP3 := Nat.lt_of_lt_of_le lgP2 hg3.size
          have o13 := World.ownsRow.kept o12 hg3 (.inr (by simp [Value.ownBlock]))
          have b3 := (hg3.block gb lgb2 (by simp)).trans b2
          generalize v3.heap.size = gS at ho3 lgS3 lgb2 lgP2 ⊢
          (refine hK.out _ _ ((by rw [hd3.cell (p := ⟨w.heap.size + 1 + 1, 0, none⟩) HK7.out]; exact HC7.out)) (fun hHeld => ?_); clear hK K; (try simp only [List.getElem_toArray, List.getElem_cons_zero, List.getElem_cons_succ, Act.put, List.setIfInBounds_toArray, List.set_cons_zero, List.set_cons_succ]))
          ((refine wpAnyH_take (i := 6) (v := ?_) rfl (by kernel_rfl) (by kernel_rfl) (by kernel_rfl) (fun _ _ _ h => h) (Or.inl ⟨by rfl, ?_⟩) (by assumption) ?_; rotate_left; (· intro w hSw; (try dsimp only at hSw); go_simp; first | done | with_reducible rfl); (try simp only [List.getElem_toArray, List.getElem_cons_zero, List.getElem_cons_succ, Act.put, List.setIfInBounds_toArray, List.set_cons_zero, List.set_cons_succ])))
          (refine wpAnyH_done (by kernel_rfl) ?_ _; refine NoPanic.normal ?_)
          go_wp2_with fail
          go_meet
          case rel => exact ⟨gb, gP, gS, rfl, rfl, Lib.hid (by omega), Lib.hid b3, Lib.hid o13, Lib.hid ho3, Lib.hid hd3⟩
    · refine hstep_make rfl _ _ _ rfl w1.heap.size 41 i0 _ Try.underlying35 HI.out HZ0.out HZ1.out _ _ xs.length rfl rfl hb4 hml hd0.size ?_
      intro v1 ho0 hg0
      have hd0 := hd0.grown hg0 hd0.size (fun k h => by cases h)
      rw [made_zeroC] at ho0
      have lgS0 := (ho0.lt v0.heap.size rfl).2
      generalize v0.heap.size = gS at ho0 lgS0 ⊢
      (refine hK.out _ _ ((by rw [hd0.cell (p := ⟨w.heap.size + 1 + 1, 0, none⟩) HK7.out]; exact HC7.out)) (fun hHeld => ?_); clear hK K; (try simp only [List.getElem_toArray, List.getElem_cons_zero, List.getElem_cons_succ, Act.put, List.setIfInBounds_toArray, List.set_cons_zero, List.set_cons_succ]))
      refine wpAnyH_ready (rs := [1, 4]) (by kernel_rfl) (by simp) ?_
      refine AllReadyH.cons (i := 1) rfl (fun K hK => ?_) (AllReadyH.cons (i := 4) rfl (fun K hK => ?_) AllReadyH.nil)
      · refine hstep_make rfl _ _ _ rfl w1.heap.size 41 i0 _ Try.underlying35 HI.out HZ0.out HZ1.out _ _ xs.length rfl rfl hb4 hml hd0.size ?_
        intro v2 ho1 hg1
        have hd1 := hd0.grown hg1 hd0.size (fun k h => by cases h)
        rw [made_zeroC] at ho1
        have lgP1 := (ho1.lt v1.heap.size rfl).2
        have lgS1 := Nat.lt_of_lt_of_le lgS0 hg1.size
        have o31 := World.ownsRow.kept ho0 hg1 (.inr (by simp [Value.ownBlock]))
        generalize v1.heap.size = gP at ho1 lgP1 lgS0 ⊢
        (refine hK.out _ _ ((by rw [hd1.cell (p := ⟨w.heap.size + 1 + 1, 0, none⟩) HK7.out]; exact HC7.out)) (fun hHeld => ?_); clear hK K; (try simp only [List.getElem_toArray, List.getElem_cons_zero, List.getElem_cons_succ, Act.put, List.setIfInBounds_toArray, List.set_cons_zero, List.set_cons_succ]))
        (refine wpAnyH_ready (rs := [4]) (by kernel_rfl) (by simp) ?_; refine AllReadyH.cons (i := 4) rfl (fun K hK => ?_) AllReadyH.nil)
        go_simp
        have hlo := hd1.size
        have hd2 := hd1.alloc hd1.size (.cells #[.slice none 0 0] 35)
        have b2 := heap_alloc_new v2 (.cells #[.slice none 0 0] 35)
        have lgb2 : v2.heap.size < (v2.alloc (.cells #[.slice none 0 0] 35)).heap.size := by simp
        have lgS2 : gS < (v2.alloc (.cells #[.slice none 0 0] 35)).heap.size := Nat.lt_trans lgS1 lgb2
        have lgP2 : gP < (v2.alloc (.cells #[.slice none 0 0] 35)).heap.size := Nat.lt_trans lgP1 lgb2
        have o32 := World.ownsRow.alloc o31 (.cells #[.slice none 0 0] 35)
        have o12 := World.ownsRow.alloc ho1 (.cells #[.slice none 0 0] 35)
        generalize (v2.alloc (.cells #[.slice none 0 0] 35)) = v3 at hd2 b2 lgb2 lgS2 lgP2 o32 o12 ⊢
        generalize v2.heap.size = gb at b2 lgb2 hlo lgS1 lgP1 ⊢
        (refine hK.out _ _ ((by rw [hd2.cell (p := ⟨w.heap.size + 1 + 1, 0, none⟩) HK7.out]; exact HC7.out)) (fun hHeld => ?_); clear hK K; (try simp only [List.getElem_toArray, List.getElem_cons_zero, List.getElem_cons_succ, Act.put, List.setIfInBounds_toArray, List.set_cons_zero, List.set_cons_succ]))
        (refine wpAnyH_ready (rs := [5]) (by kernel_rfl) (by simp) ?_; refine AllReadyH.cons (i := 5) rfl (fun K hK => ?_) AllReadyH.nil)
        have cb3 : v3.cell? ⟨gb, 0, none⟩ = some (.slice none 0 0) := by rw [Go.Joins.cell_of_block b2]; rfl
        have fb3 : v3.frozen? ⟨gb, 0, none⟩ = false := by simp [World.frozen?, b2]
        go_simp
        have hG3 := grown_cell v3 ⟨gb, 0, none⟩ (.slice (some ⟨gP, 0, none⟩) xs.length xs.length)
        have hd3 := hd2.grown hG3 hd2.size (fun k h => by cases h; exact hlo)
        have b3 := box_put b2 (.slice (some ⟨gP, 0, none⟩) xs.length xs.length)
        have lgb3 := Nat.lt_of_lt_of_le lgb2 hG3.size
        have lgS3 := Nat.lt_of_lt_of_le lgS2 hG3.size
        have lgP3 := Nat.lt_of_lt_of_le lgP2 hG3.size
        have o33 := World.ownsRow.kept o32 hG3 (.inr (by simp [Value.ownBlock]; omega))
        have o13 := World.ownsRow.kept o12 hG3 (.inr (by simp [Value.ownBlock]; omega))
        clear hG3 cb3 fb3
        generalize v3.setCell ⟨gb, 0, none⟩ (.slice (some ⟨gP, 0, none⟩) xs.length xs.length) = v4 at hd3 b3 lgb3 lgS3 lgP3 o33 o13 ⊢
        (refine hK.out _ _ ((by rw [hd3.cell (p := ⟨w.heap.size + 1 + 1, 0, none⟩) HK7.out]; exact HC7.out)) (fun hHeld => ?_); clear hK K; (try simp only [List.getElem_toArray, List.getElem_cons_zero, List.getElem_cons_succ, Act.put, List.setIfInBounds_toArray, List.set_cons_zero, List.set_cons_succ]))
        ((refine wpAnyH_take (i := 6) (v := ?_) rfl (by kernel_rfl) (by kernel_rfl) (by kernel_rfl) (fun _ _ _ h => h) (Or.inl ⟨by rfl, ?_⟩) (by assumption) ?_; rotate_left; (· intro w hSw; (try dsimp only at hSw); go_simp; first | done | with_reducible rfl); (try simp only [List.getElem_toArray, List.getElem_cons_zero, List.getElem_cons_succ, Act.put, List.setIfInBounds_toArray, List.set_cons_zero, List.set_cons_succ])))
        (refine wpAnyH_done (by kernel_rfl) ?_ _; refine NoPanic.normal ?_)
        go_wp2_with fail
        go_meet
        case rel => exact ⟨gb, gP, gS, rfl, rfl, Lib.hid (by omega), Lib.hid b3, Lib.hid o13, Lib.hid o33, Lib.hid hd3⟩
      · go_simp
        have hlo := hd0.size
        have hd1 := hd0.alloc hd0.size (.cells #[.slice none 0 0] 35)
        have b1 := heap_alloc_new v1 (.cells #[.slice none 0 0] 35)
        have lgb1 : v1.heap.size < (v1.alloc (.cells #[.slice none 0 0] 35)).heap.size := by simp
        have lgS1 : gS < (v1.alloc (.cells #[.slice none 0 0] 35)).heap.size := Nat.lt_trans lgS0 lgb1
        have o31 := World.ownsRow.alloc ho0 (.cells #[.slice none 0 0] 35)
        generalize (v1.alloc (.cells #[.slice none 0 0] 35)) = v2 at hd1 b1 lgb1 lgS1 o31 ⊢
        generalize v1.heap.size = gb at b1 lgb1 hlo lgS0 ⊢
        (refine hK.out _ _ ((by rw [hd1.cell (p := ⟨w.heap.size + 1 + 1, 0, none⟩) HK7.out]; exact HC7.out)) (fun hHeld => ?_); clear hK K; (try simp only [List.getElem_toArray, List.getElem_cons_zero, List.getElem_cons_succ, Act.put, List.setIfInBounds_toArray, List.set_cons_zero, List.set_cons_succ]))
        (refine wpAnyH_ready (rs := [1]) (by kernel_rfl) (by simp) ?_; refine AllReadyH.cons (i := 1) rfl (fun K hK => ?_) AllReadyH.nil)
        refine hstep_make rfl _ _ _ rfl w1.heap.size 41 i0 _ Try.underlying35 HI.out HZ0.out HZ1.out _ _ xs.length rfl rfl hb4 hml hd1.size ?_
        intro v3 ho2 hg2
        have hd2 := hd1.grown hg2 hd1.size (fun k h => by cases h)
        rw [made_zeroC] at ho2
        have lgP2 := (ho2.lt v2.heap.size rfl).2
        have lgb2 := Nat.lt_of_lt_of_le lgb1 hg2.size
        have lgS2 := Nat.lt_of_lt_of_le lgS1 hg2.size
        have o32 := World.ownsRow.kept o31 hg2 (.inr (by simp [Value.ownBlock]))
        have b2 := (hg2.block gb lgb1 (by simp)).trans b1
        generalize v2.heap.size = gP at ho2 lgP2 lgb1 lgS1 ⊢
        (refine hK.out _ _ ((by rw [hd2.cell (p := ⟨w.heap.size + 1 + 1, 0, none⟩) HK7.out]; exact HC7.out)) (fun hHeld => ?_); clear hK K; (try simp only [List.getElem_toArray, List.getElem_cons_zero, List.getElem_cons_succ, Act.put, List.setIfInBounds_toArray, List.set_cons_zero, List.set_cons_succ]))
        (refine wpAnyH_ready (rs := [5]) (by kernel_rfl) (by simp) ?_; refine AllReadyH.cons (i := 5) rfl (fun K hK => ?_) AllReadyH.nil)
        have cb3 : v3.cell? ⟨gb, 0, none⟩ = some (.slice none 0 0) := by rw [Go.Joins.cell_of_block b2]; rfl
        have fb3 : v3.frozen? ⟨gb, 0, none⟩ = false := by simp [World.frozen?, b2]
        go_simp
        have hG3 := grown_cell v3 ⟨gb, 0, none⟩ (.slice (some ⟨gP, 0, none⟩) xs.length xs.length)
        have hd3 := hd2.grown hG3 hd2.size (fun k h => by cases h; exact hlo)
        have b3 := box_put b2 (.slice (some ⟨gP, 0, none⟩) xs.length xs.length)
        have lgb3 := Nat.lt_of_lt_of_le lgb2 hG3.size
        have lgS3 := Nat.lt_of_lt_of_le lgS2 hG3.size
        have lgP3 := Nat.lt_of_lt_of_le lgP2 hG3.size
        have o33 := World.ownsRow.kept o32 hG3 (.inr (by simp [Value.ownBlock]; omega))
        have o13 := World.ownsRow.kept ho2 hG3 (.inr (by simp [Value.ownBlock]; omega))
        clear hG3 cb3 fb3
        generalize v3.setCell ⟨gb, 0, none⟩ (.slice (some ⟨gP, 0, none⟩) xs.length xs.length) = v4 at hd3 b3 lgb3 lgS3 lgP3 o33 o13 ⊢
        (refine hK.out _ _ ((by rw [hd3.cell (p := ⟨w.heap.size + 1 + 1, 0, none⟩) HK7.out]; exact HC7.out)) (fun hHeld => ?_); clear hK K; (try simp only [List.getElem_toArray, List.getElem_cons_zero, List.getElem_cons_succ, Act.put, List.setIfInBounds_toArray, List.set_cons_zero, List.set_cons_succ]))
        ((refine wpAnyH_take (i := 6) (v := ?_) rfl (by kernel_rfl) (by kernel_rfl) (by kernel_rfl) (fun _ _ _ h => h) (Or.inl ⟨by rfl, ?_⟩) (by assumption) ?_; rotate_left; (· intro w hSw; (try dsimp only at hSw); go_simp; first | done | with_reducible rfl); (try simp only [List.getElem_toArray, List.getElem_cons_zero, List.getElem_cons_succ, Act.put, List.setIfInBounds_toArray, List.set_cons_zero, List.set_cons_succ])))
        (refine wpAnyH_done (by kernel_rfl) ?_ _; refine NoPanic.normal ?_)
        go_wp2_with fail
        go_meet
        case rel => exact ⟨gb, gP, gS, rfl, rfl, Lib.hid (by omega), Lib.hid b3, Lib.hid o13, Lib.hid o33, Lib.hid hd3⟩
    · go_simp
      have hlo := hd0.size
      have hd0 := hd0.alloc hd0.size (.cells #[.slice none 0 0] 35)
      have b0 := heap_alloc_new v0 (.cells #[.slice none 0 0] 35)
      have lgb0 : v0.heap.size < (v0.alloc (.cells #[.slice none 0 0] 35)).heap.size := by simp
      generalize (v0.alloc (.cells #[.slice none 0 0] 35)) = v1 at hd0 b0 lgb0 ⊢
      generalize v0.heap.size = gb at b0 lgb0 hlo ⊢
      (refine hK.out _ _ ((by rw [hd0.cell (p := ⟨w.heap.size + 1 + 1, 0, none⟩) HK7.out]; exact HC7.out)) (fun hHeld => ?_); clear hK K; (try simp only [List.getElem_toArray, List.getElem_cons_zero, List.getElem_cons_succ, Act.put, List.setIfInBounds_toArray, List.set_cons_zero, List.set_cons_succ]))
      refine wpAnyH_ready (rs := [1, 3]) (by kernel_rfl) (by simp) ?_
      refine AllReadyH.cons (i := 1) rfl (fun K hK => ?_) (AllReadyH.cons (i := 3) rfl (fun K hK => ?_) AllReadyH.nil)
      · refine hstep_make rfl _ _ _ rfl w1.heap.size 41 i0 _ Try.underlying35 HI.out HZ0.out HZ1.out _ _ xs.length rfl rfl hb4 hml hd0.size ?_
        intro v2 ho1 hg1
        have hd1 := hd0.grown hg1 hd0.size (fun k h => by cases h)
        rw [made_zeroC] at ho1
        have lgP1 := (ho1.lt v1.heap.size rfl).2
        have lgb1 := Nat.lt_of_lt_of_le lgb0 hg1.size
        have b1 := (hg1.block gb lgb0 (by simp)).trans b0
        generalize v1.heap.size = gP at ho1 lgP1 lgb0 ⊢
        (refine hK.out _ _ ((by rw [hd1.cell (p := ⟨w.heap.size + 1 + 1, 0, none⟩) HK7.out]; exact HC7.out)) (fun hHeld => ?_); clear hK K; (try simp only [List.getElem_toArray, List.getElem_cons_zero, List.getElem_cons_succ, Act.put, List.setIfInBounds_toArray, List.set_cons_zero, List.set_cons_succ]))
        refine wpAnyH_ready (rs := [3, 5]) (by kernel_rfl) (by simp) ?_
        refine AllReadyH.cons (i := 3) rfl (fun K hK => ?_) (AllReadyH.cons (i := 5) rfl (fun K hK => ?_) AllReadyH.nil)
        · refine hstep_make rfl _ _ _ rfl w1.heap.size 41 i0 _ Try.underlying35 HI.out HZ0.out HZ1.out _ _ xs.length rfl rfl hb4 hml hd1.size ?_
          intro v3 ho2 hg2
          have hd2 := hd1.grown hg2 hd1.size (fun k h => by cases h)
          rw [made_zeroC] at ho2
          have lgS2 := (ho2.lt v2.heap.size rfl).2
          have lgb2 := Nat.lt_of_lt_of_le lgb1 hg2.size
          have lgP2 := Nat.lt_of_lt_of_le lgP1 hg2.size
          have o12 := World.ownsRow.kept ho1 hg2 (.inr (by simp [Value.ownBlock]))
          have b2 := (hg2.block gb lgb1 (by simp)).trans b1
          generalize v2.heap.size = gS at ho2 lgS2 lgb1 lgP1 ⊢
          (refine hK.out _ _ ((by rw [hd2.cell (p := ⟨w.heap.size + 1 + 1, 0, none⟩) HK7.out]; exact HC7.out)) (fun hHeld => ?_); clear hK K; (try simp only [List.getElem_toArray, List.getElem_cons_zero, List.getElem_cons_succ, Act.put, List.setIfInBounds_toArray, List.set_cons_zero, List.set_cons_succ]))
          (refine wpAnyH_ready (rs := [5]) (by kernel_rfl) (by simp) ?_; refine AllReadyH.cons (i := 5) rfl (fun K hK => ?_) AllReadyH.nil)
          have cb3 : v3.cell? ⟨gb, 0, none⟩ = some (.slice none 0 0) := by rw [Go.Joins.cell_of_block b2]; rfl
          have fb3 : v3.frozen? ⟨gb, 0, none⟩ = false := by simp [World.frozen?, b2]
          go_simp
          have hG3 := grown_cell v3 ⟨gb, 0, none⟩ (.slice (some ⟨gP, 0, none⟩) xs.length xs.length)
          have hd3 := hd2.grown hG3 hd2.size (fun k h => by cases h; exact hlo)
          have b3 := box_put b2 (.slice (some ⟨gP, 0, none⟩) xs.length xs.length)
          have lgb3 := Nat.lt_of_lt_of_le lgb2 hG3.size
          have lgP3 := Nat.lt_of_lt_of_le lgP2 hG3.size
          have lgS3 := Nat.lt_of_lt_of_le lgS2 hG3.size
          have o13 := World.ownsRow.kept o12 hG3 (.inr (by simp [Value.ownBlock]; omega))
          have o33 := World.ownsRow.kept ho2 hG3 (.inr (by simp [Value.ownBlock]; omega))
          clear hG3 cb3 fb3
          generalize v3.setCell ⟨gb, 0, none⟩ (.slice (some ⟨gP, 0, none⟩) xs.length xs.length) = v4 at hd3 b3 lgb3 lgP3 lgS3 o13 o33 ⊢
          (refine hK.out _ _ ((by rw [hd3.cell (p := ⟨w.heap.size + 1 + 1, 0, none⟩) HK7.out]; exact HC7.out)) (fun hHeld => ?_); clear hK K; (try simp only [List.getElem_toArray, List.getElem_cons_zero, List.getElem_cons_succ, Act.put, List.setIfInBounds_toArray, List.set_cons_zero, List.set_cons_succ]))
          ((refine wpAnyH_take (i := 6) (v := ?_) rfl (by kernel_rfl) (by kernel_rfl) (by kernel_rfl) (fun _ _ _ h => h) (Or.inl ⟨by rfl, ?_⟩) (by assumption) ?_; rotate_left; (· intro w hSw; (try dsimp only at hSw); go_simp; first | done | with_reducible rfl); (try simp only [List.getElem_toArray, List.getElem_cons_zero, List.getElem_cons_succ, Act.put, List.setIfInBounds_toArray, List.set_cons_zero, List.set_cons_succ])))
          (refine wpAnyH_done (by kernel_rfl) ?_ _; refine NoPanic.normal ?_)
          go_wp2_with fail
          go_meet
          case rel => exact ⟨gb, gP, gS, rfl, rfl, Lib.hid (by omega), Lib.hid b3, Lib.hid o13, Lib.hid o33, Lib.hid hd3⟩
        · have cb2 : v2.cell? ⟨gb, 0, none⟩ = some (.slice none 0 0) := by rw [Go.Joins.cell_of_block b1]; rfl
          have fb2 : v2.frozen? ⟨gb, 0, none⟩ = false := by simp [World.frozen?, b1]
          go_simp
          have hG2 := grown_cell v2 ⟨gb, 0, none⟩ (.slice (some ⟨gP, 0, none⟩) xs.length xs.length)
          have hd2 := hd1.grown hG2 hd1.size (fun k h => by cases h; exact hlo)
          have b2 := box_put b1 (.slice (some ⟨gP, 0, none⟩) xs.length xs.length)
          have lgb2 := Nat.lt_of_lt_of_le lgb1 hG2.size
          have lgP2 := Nat.lt_of_lt_of_le lgP1 hG2.size
          have o12 := World.ownsRow.kept ho1 hG2 (.inr (by simp [Value.ownBlock]; omega))
          clear hG2 cb2 fb2
          generalize v2.setCell ⟨gb, 0, none⟩ (.slice (some ⟨gP, 0, none⟩) xs.length xs.length) = v3 at hd2 b2 lgb2 lgP2 o12 ⊢
          (refine hK.out _ _ ((by rw [hd2.cell (p := ⟨w.heap.size + 1 + 1, 0, none⟩) HK7.out]; exact HC7.out)) (fun hHeld => ?_); clear hK K; (try simp only [List.getElem_toArray, List.getElem_cons_zero, List.getElem_cons_succ, Act.put, List.setIfInBounds_toArray, List.set_cons_zero, List.set_cons_succ]))
          (refine wpAnyH_ready (rs := [3]) (by kernel_rfl) (by simp) ?_; refine AllReadyH.cons (i := 3) rfl (fun K hK => ?_) AllReadyH.nil)
          refine hstep_make rfl _ _ _ rfl w1.heap.size 41 i0 _ Try.underlying35 HI.out HZ0.out HZ1.out _ _ xs.length rfl rfl hb4 hml hd2.size ?_
          intro v4 ho3 hg3
          have hd3 := hd2.grown hg3 hd2.size (fun k h => by cases h)
          rw [made_zeroC] at ho3
          have lgS3 := (ho3.lt v3.heap.size rfl).2
          have lgb3 := Nat.lt_of_lt_of_le lgb2 hg3.size
          have lgP3 := Nat.lt_of_lt_of_le lgP2 hg3.size
          have o13 := World.ownsRow.kept o12 hg3 (.inr (by simp [Value.ownBlock]))
          have b3 := (hg3.block gb lgb2 (by simp)).trans b2
          generalize v3.heap.size = gS at ho3 lgS3 lgb2 lgP2 ⊢
          (refine hK.out _ _ ((by rw [hd3.cell (p := ⟨w.heap.size + 1 + 1, 0, none⟩) HK7.out]; exact HC7.out)) (fun hHeld => ?_); clear hK K; (try simp only [List.getElem_toArray, List.getElem_cons_zero, List.getElem_cons_succ, Act.put, List.setIfInBounds_toArray, List.set_cons_zero, List.set_cons_succ]))
          ((refine wpAnyH_take (i := 6) (v := ?_) rfl (by kernel_rfl) (by kernel_rfl) (by kernel_rfl) (fun _ _ _ h => h) (Or.inl ⟨by rfl, ?_⟩) (by assumption) ?_; rotate_left; (· intro w hSw; (try dsimp only at hSw); go_simp; first | done | with_reducible rfl); (try simp only [List.getElem_toArray, List.getElem_cons_zero, List.getElem_cons_succ, Act.put, List.setIfInBounds_toArray, List.set_cons_zero, List.set_cons_succ])))
          (refine wpAnyH_done (by kernel_rfl) ?_ _; refine NoPanic.normal ?_)
          go_wp2_with fail
          go_meet
          case rel => exact ⟨gb, gP, gS, rfl, rfl, Lib.hid (by omega), Lib.hid b3, Lib.hid o13, Lib.hid ho3, Lib.hid hd3⟩
      · refine hstep_make rfl _ _ _ rfl w1.heap.size 41 i0 _ Try.underlying35 HI.out HZ0.out HZ1.out _ _ xs.length rfl rfl hb4 hml hd0.size ?_
        intro v2 ho1 hg1
        have hd1 := hd0.grown hg1 hd0.size (fun k h => by cases h)
        rw [made_zeroC] at ho1
        have lgS1 := (ho1.lt v1.heap.size rfl).2
        have lgb1 := Nat.lt_of_lt_of_le lgb0 hg1.size
        have b1 := (hg1.block gb lgb0 (by simp)).trans b0
        generalize v1.heap.size = gS at ho1 lgS1 lgb0 ⊢
        (refine hK.out _ _ ((by rw [hd1.cell (p := ⟨w.heap.size + 1 + 1, 0, none⟩) HK7.out]; exact HC7.out)) (fun hHeld => ?_); clear hK K; (try simp only [List.getElem_toArray, List.getElem_cons_zero, List.getElem_cons_succ, Act.put, List.setIfInBounds_toArray, List.set_cons_zero, List.set_cons_succ]))
        (refine wpAnyH_ready (rs := [1]) (by kernel_rfl) (by simp) ?_; refine AllReadyH.cons (i := 1) rfl (fun K hK => ?_) AllReadyH.nil)
        refine hstep_make rfl _ _ _ rfl w1.heap.size 41 i0 _ Try.underlying35 HI.out HZ0.out HZ1.out _ _ xs.length rfl rfl hb4 hml hd1.size ?_
        intro v3 ho2 hg2
        have hd2 := hd1.grown hg2 hd1.size (fun k h => by cases h)
        rw [made_zeroC] at ho2
        have lgP2 := (ho2.lt v2.heap.size rfl).2
        have lgb2 := Nat.lt_of_lt_of_le lgb1 hg2.size
        have lgS2 := Nat.lt_of_lt_of_le lgS1 hg2.size
        have o32 := World.ownsRow.kept ho1 hg2 (.inr (by simp [Value.ownBlock]))
        have b2 := (hg2.block gb lgb1 (by simp)).trans b1
        generalize v2.heap.size = gP at ho2 lgP2 lgb1 lgS1 ⊢
        (refine hK.out _ _ ((by rw [hd2.cell (p := ⟨w.heap.size + 1 + 1, 0, none⟩) HK7.out]; exact HC7.out)) (fun hHeld => ?_); clear hK K; (try simp only [List.getElem_toArray, List.getElem_cons_zero, List.getElem_cons_succ, Act.put, List.setIfInBounds_toArray, List.set_cons_zero, List.set_cons_succ]))
        (refine wpAnyH_ready (rs := [5]) (by kernel_rfl) (by simp) ?_; refine AllReadyH.cons (i := 5) rfl (fun K hK => ?_) AllReadyH.nil)
        have cb3 : v3.cell? ⟨gb, 0, none⟩ = some (.slice none 0 0) := by rw [Go.Joins.cell_of_block b2]; rfl
        have fb3 : v3.frozen? ⟨gb, 0, none⟩ = false := by simp [World.frozen?, b2]
        go_simp
        have hG3 := grown_cell v3 ⟨gb, 0, none⟩ (.slice (some ⟨gP, 0, none⟩) xs.length xs.length)
        have hd3 := hd2.grown hG3 hd2.size (fun k h => by cases h; exact hlo)
        have b3 := box_put b2 (.slice (some ⟨gP, 0, none⟩) xs.length xs.length)
        have lgb3 := Nat.lt_of_lt_of_le lgb2 hG3.size
        have lgS3 := Nat.lt_of_lt_of_le lgS2 hG3.size
        have lgP3 := Nat.lt_of_lt_of_le lgP2 hG3.size
        have o33 := World.ownsRow.kept o32 hG3 (.inr (by simp [Value.ownBlock]; omega))
        have o13 := World.ownsRow.kept ho2 hG3 (.inr (by simp [Value.ownBlock]; omega))
        clear hG3 cb3 fb3
        generalize v3.setCell ⟨gb, 0, none⟩ (.slice (some ⟨gP, 0, none⟩) xs.length xs.length) = v4 at hd3 b3 lgb3 lgS3 lgP3 o33 o13 ⊢
        (refine hK.out _ _ ((by rw [hd3.cell (p := ⟨w.heap.size + 1 + 1, 0, none⟩) HK7.out]; exact HC7.out)) (fun hHeld => ?_); clear hK K; (try simp only [List.getElem_toArray, List.getElem_cons_zero, List.getElem_cons_succ, Act.put, List.setIfInBounds_toArray, List.set_cons_zero, List.set_cons_succ]))
        ((refine wpAnyH_take (i := 6) (v := ?_) rfl (by kernel_rfl) (by kernel_rfl) (by kernel_rfl) (fun _ _ _ h => h) (Or.inl ⟨by rfl, ?_⟩) (by assumption) ?_; rotate_left; (· intro w hSw; (try dsimp only at hSw); go_simp; first | done | with_reducible rfl); (try simp only [List.getElem_toArray, List.getElem_cons_zero, List.getElem_cons_succ, Act.put, List.setIfInBounds_toArray, List.set_cons_zero, List.set_cons_succ])))
        (refine wpAnyH_done (by kernel_rfl) ?_ _; refine NoPanic.normal ?_)
        go_wp2_with fail
        go_meet
        case rel => exact ⟨gb, gP, gS, rfl, rfl, Lib.hid (by omega), Lib.hid b3, Lib.hid o13, Lib.hid o33, Lib.hid hd3⟩
  case rest =>
  obtain ⟨gb, gP, gS, rfl, rfl, HNE, HBX, HO1, HO2, HD0⟩ := hcut
  clear hb4 hml HI HZ0 HZ1
  have HNX := Lib.hid hn
  have HLT := Lib.hid (show gb < wc.heap.size from (Array.getElem?_eq_some_iff.1 HBX.out).1)
  have hcb : wc.cell? ⟨gb, 0, none⟩ = some (.slice (some ⟨gP, 0, none⟩) xs.length xs.length) := by rw [Go.Joins.cell_of_block HBX.out]; rfl
  rw [← ptC_zero] at HO1
  have HB1 := Lib.hid (bx_of HBX.out)
  have HOw := HO1
  have HPL := Lib.hid (show gP < wc.heap.size ∧ gS < wc.heap.size from ⟨(HO1.out.lt gP rfl).2, (HO2.out.lt gS rfl).2⟩)
  clear HBX
  go_wp2_with fail
  clear hcb
  go_loopw [20] (fun i wr => ∃ rs : List (Nat × Nat), i = .int .i64 (rs.length : Int) ∧ rs.length ≤ xs.length ∧ Hid (EqC rs (fun p => phRe (turnF p xs.length)) (fun p => phIm (turnF p xs.length))) ∧ Hid (wr.ownsRow w1.heap.size 41 1 (.slice (some ⟨gP, 0, none⟩) xs.length xs.length) xs.length (ptC rs xs.length)) ∧ Hid (wr.ownsRow w1.heap.size 41 1 (.slice (some ⟨gS, 0, none⟩) xs.length xs.length) xs.length ((List.replicate xs.length (0, 0)).map cV)) ∧ Hid (BX wr (.pointer (some ⟨gb, 0, none⟩)) (.slice (some ⟨gP, 0, none⟩) xs.length xs.length)) ∧ Hid (Below w1.heap.size w1 wr)) (fun i _ => xs.length - (intOf i).toNat)
  case atStart => exact ⟨[], rfl, Nat.zero_le _, Lib.hid (EqC.nil _ _), HO1, HO2, HB1, HD0⟩
  case round =>
    clear HO1 HO2 HB1 HD0 HOw HLT HPL
    obtain ⟨rs, rfl, hk, HE, HO1, HO2, HB1, HD0⟩ := hrel
    by_cases hlt : rs.length < xs.length
    · go_wp2_with fail
      have hc8 := HB1.out.cell
      have hc7 := (HNB.out.below HD0.out).cell
      refine wp_region_noPanic ?_
      refine wp_region_held_drew (S := fun w' => w'.cell? ⟨gb, 0, none⟩ = some (.slice (some ⟨gP, 0, none⟩) xs.length xs.length) ∧ w'.cell? ⟨w.heap.size + 1 + 1, 0, none⟩ = some (.int .i64 (xs.length : Int))) (by kernel_rfl) ⟨hc8, hc7⟩ (fun hHeld => ?_)
      have hbd := (Below.refl wr.heap.size wr).drew
      have HO1 := Lib.hid (World.ownsRow.kept HO1.out (grown_below (row := none) hbd) (.inr (by simp [Value.ownBlock])))
      have HO2 := Lib.hid (World.ownsRow.kept HO2.out (grown_below (row := none) hbd) (.inr (by simp [Value.ownBlock])))
      have HB1 := Lib.hid (HB1.out.below hbd)
      have HD0 := Lib.hid (HD0.out.trans (hbd.mono HD0.out.size))
      clear hbd hc8 hc7
      generalize wr.drew = v0 at hHeld HO1 HO2 HB1 HD0 ⊢
      ((refine wpAnyH_take (i := 0) (v := ?_) rfl (by kernel_rfl) (by kernel_rfl) (by kernel_rfl) (fun _ _ _ h => h) (Or.inl ⟨by rfl, ?_⟩) (by assumption) ?_; rotate_left; (· intro w hSw; (try dsimp only at hSw); go_simp; first | done | with_reducible rfl); (try simp only [List.getElem_toArray, List.getElem_cons_zero, List.getElem_cons_succ, Act.put, List.setIfInBounds_toArray, List.set_cons_zero, List.set_cons_succ])); (refine wpAnyH_take (i := 1) (v := ?_) rfl (by kernel_rfl) (by kernel_rfl) (by kernel_rfl) (fun _ _ _ h => h) (Or.inl ⟨by rfl, ?_⟩) (by assumption) ?_; rotate_left; (· intro w hSw; (try dsimp only at hSw); go_simp; first | done | with_reducible rfl); (try simp only [List.getElem_toArray, List.getElem_cons_zero, List.getElem_cons_succ, Act.put, List.setIfInBounds_toArray, List.set_cons_zero, List.set_cons_succ])); (refine wpAnyH_take (i := 2) (v := ?_) rfl (by kernel_rfl) (by kernel_rfl) (by kernel_rfl) (fun _ _ _ h => h) (Or.inl ⟨by rfl, ?_⟩) (by assumption) ?_; rotate_left; (· intro w hSw; (try dsimp only at hSw); go_simp; first | done | with_reducible rfl); (try simp only [List.getElem_toArray, List.getElem_cons_zero, List.getElem_cons_succ, Act.put, List.setIfInBounds_toArray, List.set_cons_zero, List.set_cons_succ])); (refine wpAnyH_take (i := 3) (v := ?_) rfl (by kernel_rfl) (by kernel_rfl) (by kernel_rfl) (fun _ _ _ h => h) (Or.inl ⟨by rfl, ?_⟩) (by assumption) ?_; rotate_left; (· intro w hSw; (try dsimp only at hSw); go_simp; first | done | with_reducible rfl); (try simp only [List.getElem_toArray, List.getElem_cons_zero, List.getElem_cons_succ, Act.put, List.setIfInBounds_toArray, List.set_cons_zero, List.set_cons_succ])); (refine wpAnyH_take (i := 4) (v := ?_) rfl (by kernel_rfl) (by kernel_rfl) (by kernel_rfl) (fun _ _ _ h => h) (Or.inl ⟨by rfl, ?_⟩) (by assumption) ?_; rotate_left; (· intro w hSw; (try dsimp only at hSw); go_simp; first | done | with_reducible rfl); (try simp only [List.getElem_toArray, List.getElem_cons_zero, List.getElem_cons_succ, Act.put, List.setIfInBounds_toArray, List.set_cons_zero, List.set_cons_succ])))
      (refine wpAnyH_ready (rs := [5]) (by kernel_rfl) (by simp) ?_; refine AllReadyH.cons (i := 5) rfl (fun K hK => ?_) AllReadyH.nil)
      go_simp
      refine (back_any xs.length rs.length _).mono ?_; rintro e w' ⟨⟨r, s, rfl, hr, hs⟩, n, rfl⟩
      have hbd := below_drewN (Below.refl v0.heap.size v0) n
      have HO1 := Lib.hid (World.ownsRow.kept HO1.out (grown_below (row := none) hbd) (.inr (by simp [Value.ownBlock])))
      have HO2 := Lib.hid (World.ownsRow.kept HO2.out (grown_below (row := none) hbd) (.inr (by simp [Value.ownBlock])))
      have HB1 := Lib.hid (HB1.out.below hbd)
      have HD0 := Lib.hid (HD0.out.trans (hbd.mono HD0.out.size))
      clear hbd
      generalize v0.drewN n = v1 at HO1 HO2 HB1 HD0 ⊢
      go_wp2_with fail
      have hc8 := HB1.out.cell
      have hc7 := (HNB.out.below HD0.out).cell
      (refine hK.out _ _ (⟨hc8, hc7⟩) (fun hHeld => ?_); clear hK K; (try simp only [List.getElem_toArray, List.getElem_cons_zero, List.getElem_cons_succ, Act.put, List.setIfInBounds_toArray, List.set_cons_zero, List.set_cons_succ]))
      ((refine wpAnyH_take (i := 6) (v := ?_) rfl (by kernel_rfl) (by kernel_rfl) (by kernel_rfl) (fun _ _ _ h => h) (Or.inl ⟨by rfl, ?_⟩) (by assumption) ?_; rotate_left; (· intro w hSw; (try dsimp only at hSw); go_simp; first | done | with_reducible rfl); (try simp only [List.getElem_toArray, List.getElem_cons_zero, List.getElem_cons_succ, Act.put, List.setIfInBounds_toArray, List.set_cons_zero, List.set_cons_succ])))
      (refine wpAnyH_ready (rs := [7]) (by kernel_rfl) (by simp) ?_; refine AllReadyH.cons (i := 7) rfl (fun K hK => ?_) AllReadyH.nil)
      have hw0 := HO1.out.cellAt rs.length (by omega)
      rw [ptC_get rs _ hlt] at hw0
      have hfz := HO1.out.frozenAt rs.length
      go_simp
      have ST := (HO1.out.stored rs.length (.complex .f32 r s)).1
      rw [ptC_set rs _ r s hlt] at ST
      have hgP := HO1.out.lt gP rfl
      have hG := grown_cell v1 ⟨gP, rs.length, none⟩ (.complex .f32 r s)
      have HO2 := Lib.hid (World.ownsRow.kept HO2.out hG (.inr (by have := HNE.out; simp [Value.ownBlock]; omega)))
      have hbx := HB1.out
      have hcb := (HB1.out.cell)
      have hne : (⟨gb, 0, none⟩ : Addr).block ≠ gP := HNE.out.1
      have HB1 := Lib.hid (show BX (v1.setCell ⟨gP, rs.length, none⟩ (.complex .f32 r s)) (.pointer (some ⟨gb, 0, none⟩)) (.slice (some ⟨gP, 0, none⟩) xs.length xs.length) from ⟨gb, rfl, Nat.lt_of_lt_of_le (block_lt_of_cell hcb) hG.size, by rw [World.cell?_of_block (hG.block gb (block_lt_of_cell hcb) (by have := HNE.out; simp; omega))]; exact hcb⟩)
      have HD0 := Lib.hid (HD0.out.grown hG HD0.out.size (fun k h => by cases h; exact hgP.1))
      have HST := Lib.hid ST
      clear hc8 hc7 hw0 hfz hG hbx hcb hne ST HO1
      generalize v1.setCell ⟨gP, rs.length, none⟩ (.complex .f32 r s) = v2 at HO2 HB1 HD0 HST ⊢
      have hc8 := HB1.out.cell
      have hc7 := (HNB.out.below HD0.out).cell
      (refine hK.out _ _ (⟨hc8, hc7⟩) (fun hHeld => ?_); clear hK K; (try simp only [List.getElem_toArray, List.getElem_cons_zero, List.getElem_cons_succ, Act.put, List.setIfInBounds_toArray, List.set_cons_zero, List.set_cons_succ]))
      (refine wpAnyH_done (by kernel_rfl) ?_ _; refine NoPanic.normal ?_)
      clear hc8 hc7 hHeld
      have HE2 := Lib.hid (HE.out.snoc hr hs)
      go_wp2_with fail
      go_roundw
      case rel => exact ⟨rs ++ [(r, s)], by rw [List.length_append, List.length_singleton]; go_num, by simp; omega, HE2, HST, HO2, HB1, HD0⟩
      case measure => simp [intOf]; omega
    · have hrl : rs.length = xs.length := by omega
      have HRL := Lib.hid hrl
      have HPA := Lib.hid (show wr.ownsRow w1.heap.size 41 1 (.slice (some ⟨gP, 0, none⟩) xs.length xs.length) xs.length (rs.map cV) by
        have := HO1.out
        rw [show ptC rs xs.length = rs.map cV by rw [← hrl]; exact ptC_all rs] at this
        exact this)
      have HOS := Lib.hid (show wr.ownsRow w1.heap.size 41 1 (.slice (some ⟨gS, 0, none⟩) xs.length xs.length) xs.length (ptC [] xs.length) by rw [ptC_zero]; exact HO2.out)
      clear HO1 HO2 hrl
      have i9 : ¬ ((rs.length : Int) < (xs.length : Int)) := by omega
      go_wp2_with fail
      go_loopw [33] (fun i w9 => ∃ ss : List (Nat × Nat), i = .int .i64 (ss.length : Int) ∧ ss.length ≤ xs.length ∧ Hid (EqC ss (specRe xs) (specIm xs)) ∧ Hid (w9.ownsRow w1.heap.size 41 1 (.slice (some ⟨gP, 0, none⟩) xs.length xs.length) xs.length (rs.map cV)) ∧ Hid (w9.ownsRow w1.heap.size 41 1 (.slice (some ⟨gS, 0, none⟩) xs.length xs.length) xs.length (ptC ss xs.length)) ∧ Hid (BX w9 (.pointer (some ⟨gb, 0, none⟩)) (.slice (some ⟨gP, 0, none⟩) xs.length xs.length)) ∧ Hid (Below w1.heap.size w1 w9)) (fun i _ => xs.length - (intOf i).toNat)
      case atStart => exact ⟨[], rfl, Nat.zero_le _, Lib.hid (EqC.nil _ _), HPA, HOS, HB1, HD0⟩
      case round =>
        clear HPA HOS HB1 HD0
        obtain ⟨ss, rfl, hks, HE2, HPA, HOS, HB1, HD0⟩ := hrel
        have hx16 := HNX.out
        by_cases hls : ss.length < xs.length
        · have HS5 := Lib.hid (bx_new wr (.int .i64 (ss.length : Int)) 3)
          have hn5 := (Below.refl wr.heap.size wr).alloc (Nat.le_refl _) (.cells #[.int .i64 (ss.length : Int)] 3)
          have HPA5 := Lib.hid (World.ownsRow.alloc HPA.out (.cells #[.int .i64 (ss.length : Int)] 3))
          have HOS5 := Lib.hid (World.ownsRow.alloc HOS.out (.cells #[.int .i64 (ss.length : Int)] 3))
          have HB5 := Lib.hid (HB1.out.below hn5)
          have HD5 := Lib.hid (HD0.out.trans (hn5.mono HD0.out.size))
          have hgS := Lib.hid (show gS ≠ wr.heap.size by have := (HOS.out.lt gS rfl).2; omega)
          clear hn5 HPA HOS HB1 HD0
          go_upto_region 11 with fail
          generalize wr.alloc (.cells #[.int .i64 (ss.length : Int)] 3) = v0 at HS5 HPA5 HOS5 HB5 HD5 ⊢
          have hcm := HS5.out.cell
          have hc7 := (HNB.out.below HD5.out).cell
          refine wp_region_noPanic ?_
          refine wp_region_held_drew (S := fun w' => w'.cell? ⟨wr.heap.size, 0, none⟩ = some (.int .i64 (ss.length : Int)) ∧ w'.cell? ⟨w.heap.size + 1 + 1, 0, none⟩ = some (.int .i64 (xs.length : Int))) (by kernel_rfl) ⟨hcm, hc7⟩ (fun hHeld => ?_)
          have hbd := (Below.refl v0.heap.size v0).drew
          have HPA5 := Lib.hid (World.ownsRow.kept HPA5.out (grown_below (row := none) hbd) (.inr (by simp [Value.ownBlock])))
          have HOS5 := Lib.hid (World.ownsRow.kept HOS5.out (grown_below (row := none) hbd) (.inr (by simp [Value.ownBlock])))
          have HB5 := Lib.hid (HB5.out.below hbd)
          have HS5 := Lib.hid (HS5.out.below hbd)
          have HD5 := Lib.hid (HD5.out.trans (hbd.mono HD5.out.size))
          clear hbd hcm hc7
          generalize v0.drew = v1 at hHeld HS5 HPA5 HOS5 HB5 HD5 ⊢
          ((refine wpAnyH_take (i := 0) (v := ?_) rfl (by kernel_rfl) (by kernel_rfl) (by kernel_rfl) (fun _ _ _ h => h) (Or.inl ⟨by rfl, ?_⟩) (by assumption) ?_; rotate_left; (· intro w hSw; (try dsimp only at hSw); go_simp; first | done | with_reducible rfl); (try simp only [List.getElem_toArray, List.getElem_cons_zero, List.getElem_cons_succ, Act.put, List.setIfInBounds_toArray, List.set_cons_zero, List.set_cons_succ])); (refine wpAnyH_take (i := 1) (v := ?_) rfl (by kernel_rfl) (by kernel_rfl) (by kernel_rfl) (fun _ _ _ h => h) (Or.inl ⟨by rfl, ?_⟩) (by assumption) ?_; rotate_left; (· intro w hSw; (try dsimp only at hSw); go_simp; first | done | with_reducible rfl); (try simp only [List.getElem_toArray, List.getElem_cons_zero, List.getElem_cons_succ, Act.put, List.setIfInBounds_toArray, List.set_cons_zero, List.set_cons_succ])); (refine wpAnyH_take (i := 2) (v := ?_) rfl (by kernel_rfl) (by kernel_rfl) (by kernel_rfl) (fun _ _ _ h => h) (Or.inl ⟨by rfl, ?_⟩) (by assumption) ?_; rotate_left; (· intro w hSw; (try dsimp only at hSw); go_simp; first | done | with_reducible rfl); (try simp only [List.getElem_toArray, List.getElem_cons_zero, List.getElem_cons_succ, Act.put, List.setIfInBounds_toArray, List.set_cons_zero, List.set_cons_succ])); (refine wpAnyH_take (i := 3) (v := ?_) rfl (by kernel_rfl) (by kernel_rfl) (by kernel_rfl) (fun _ _ _ h => h) (Or.inl ⟨by rfl, ?_⟩) (by assumption) ?_; rotate_left; (· intro w hSw; (try dsimp only at hSw); go_simp; first | done | with_reducible rfl); (try simp only [List.getElem_toArray, List.getElem_cons_zero, List.getElem_cons_succ, Act.put, List.setIfInBounds_toArray, List.set_cons_zero, List.set_cons_succ])))
          (refine wpAnyH_ready (rs := [4]) (by kernel_rfl) (by simp) ?_; refine AllReadyH.cons (i := 4) rfl (fun K hK => ?_) AllReadyH.nil)
          go_simp
          have HTC := Lib.hid (show TellsC v1 136 #[.pointer (some ⟨w.heap.size + 1, 0, none⟩), .pointer (some ⟨w.heap.size, 0, none⟩), .pointer (some ⟨gb, 0, none⟩), .pointer (some ⟨wr.heap.size, 0, none⟩), .pointer (some ⟨w.heap.size + 1 + 1, 0, none⟩)] xs.length
              (fun k => fop .mul .f32 (phRe (turnF (k * ss.length % xs.length) xs.length)) (cn .f32 (xs.getD k 0))) (fun k => fop .mul .f32 (phIm (turnF (k * ss.length % xs.length) xs.length)) (cn .f32 (xs.getD k 0))) from
            ⟨enters_of Try.func136 (by kernel_rfl) rfl, fun k w6 hk6 hb6 => by
              have hD6 := HD5.out.trans (hb6.mono HD5.out.size)
              have hP6 := World.ownsRow.kept HPA5.out (grown_below (row := none) hb6) (.inr (by simp [Value.ownBlock]))
              exact spun1_any k ss.length _ xs gP rs _ _ _ _ _ w6 HNX.out hk6 hls (HU.out.below (HB.out.trans (hD6.mono HB.out.size))) (HFB.out.below hD6).cell (HLB.out.below hD6).cell (HB5.out.below hb6).cell (HS5.out.below hb6).cell (HNB.out.below hD6).cell
                (fun p hp => cown_at hP6 HRL.out.symm (by have := HRL.out; omega)) (fun p hp => HE.out p (by have := HRL.out; omega))⟩)
          refine (sumByC_any xs.length _ _ _ _ _ (by omega) HTC.out).mono ?_; rintro e w7 ⟨⟨r, s, rfl, hr, hs⟩, hb7⟩
          have HPA7 := Lib.hid (World.ownsRow.kept HPA5.out (grown_below (row := none) hb7) (.inr (by simp [Value.ownBlock])))
          have HOS7 := Lib.hid (World.ownsRow.kept HOS5.out (grown_below (row := none) hb7) (.inr (by simp [Value.ownBlock])))
          have HB7 := Lib.hid (HB5.out.below hb7)
          have HS7 := Lib.hid (HS5.out.below hb7)
          have HD7 := Lib.hid (HD5.out.trans (hb7.mono HD5.out.size))
          clear hb7 HPA5 HOS5 HB5 HD5 HS5 HTC
          go_wp2_with fail
          have hcm := HS7.out.cell
          have hc7 := (HNB.out.below HD7.out).cell
          (refine hK.out _ _ (⟨hcm, hc7⟩) (fun hHeld => ?_); clear hK K; (try simp only [List.getElem_toArray, List.getElem_cons_zero, List.getElem_cons_succ, Act.put, List.setIfInBounds_toArray, List.set_cons_zero, List.set_cons_succ]))
          ((refine wpAnyH_take (i := 5) (v := ?_) rfl (by kernel_rfl) (by kernel_rfl) (by kernel_rfl) (fun _ _ _ h => h) (Or.inl ⟨by rfl, ?_⟩) (by assumption) ?_; rotate_left; (· intro w hSw; (try dsimp only at hSw); go_simp; first | done | with_reducible rfl); (try simp only [List.getElem_toArray, List.getElem_cons_zero, List.getElem_cons_succ, Act.put, List.setIfInBounds_toArray, List.set_cons_zero, List.set_cons_succ])))
          (refine wpAnyH_ready (rs := [6]) (by kernel_rfl) (by simp) ?_; refine AllReadyH.cons (i := 6) rfl (fun K hK => ?_) AllReadyH.nil)
          have hw0 := HOS7.out.cellAt ss.length (by omega)
          rw [ptC_get ss _ hls] at hw0
          have hfz := HOS7.out.frozenAt ss.length
          go_simp
          have ST := (HOS7.out.stored ss.length (.complex .f32 r s)).1
          rw [ptC_set ss _ r s hls] at ST
          have hgT := HOS7.out.lt gS rfl
          have hG := grown_cell w7 ⟨gS, ss.length, none⟩ (.complex .f32 r s)
          have HPA8 := Lib.hid (World.ownsRow.kept HPA7.out hG (.inr (by have := HNE.out; simp [Value.ownBlock]; omega)))
          have hcb := HB7.out.cell
          have HB8 := Lib.hid (show BX (w7.setCell ⟨gS, ss.length, none⟩ (.complex .f32 r s)) (.pointer (some ⟨gb, 0, none⟩)) (.slice (some ⟨gP, 0, none⟩) xs.length xs.length) from ⟨gb, rfl, Nat.lt_of_lt_of_le (block_lt_of_cell hcb) hG.size, by rw [World.cell?_of_block (hG.block gb (block_lt_of_cell hcb) (by have := HNE.out; simp; omega))]; exact hcb⟩)
          have HD8 := Lib.hid (HD7.out.grown hG HD7.out.size (fun k h => by cases h; exact hgT.1))
          have hcm8 : (w7.setCell ⟨gS, ss.length, none⟩ (.complex .f32 r s)).cell? ⟨wr.heap.size, 0, none⟩ = some (.int .i64 (ss.length : Int)) := by rw [World.cell?_of_block (hG.block wr.heap.size (block_lt_of_cell hcm) (by have := hgS.out; simp; omega))]; exact hcm
          have HST := Lib.hid ST
          clear hcm hc7 hw0 hfz hG hcb ST
          generalize w7.setCell ⟨gS, ss.length, none⟩ (.complex .f32 r s) = v2 at HPA8 HB8 HD8 HST hcm8 ⊢
          have hc7 := (HNB.out.below HD8.out).cell
          (refine hK.out _ _ (⟨hcm8, hc7⟩) (fun hHeld => ?_); clear hK K; (try simp only [List.getElem_toArray, List.getElem_cons_zero, List.getElem_cons_succ, Act.put, List.setIfInBounds_toArray, List.set_cons_zero, List.set_cons_succ]))
          (refine wpAnyH_done (by kernel_rfl) ?_ _; refine NoPanic.normal ?_)
          clear hc7 hcm8 hHeld
          have HE3 := Lib.hid (HE2.out.snoc (r := r) (s := s) hr hs)
          go_wp2_with fail
          go_roundw
          case rel => exact ⟨ss ++ [(r, s)], by rw [List.length_append, List.length_singleton]; go_num, by simp; omega, HE3, HPA8, HST, HB8, HD8⟩
          case measure => simp [intOf]; omega
        · have hsl : ss.length = xs.length := by omega
          have HSL := Lib.hid hsl
          have HOF := Lib.hid (show COwn w1.heap.size wr (.slice (some ⟨gS, 0, none⟩) xs.length xs.length) ss by
            have := HOS.out
            rw [show ptC ss xs.length = ss.map cV by rw [← hsl]; exact ptC_all ss] at this
            unfold COwn
            rw [hsl]
            exact this)
          have i8 : ¬ ((ss.length : Int) < (xs.length : Int)) := by omega
          clear hsl
          go_wp2_with fail
          go_ret
          exact ⟨⟨_, rfl, ss, HSL.out, HE2.out, ownsRow_le HOF.out HB.out.size⟩, HB.out.trans (HD0.out.mono HB.out.size)⟩
end Go.Proofs.Ytlfnbnhbobohlaa
