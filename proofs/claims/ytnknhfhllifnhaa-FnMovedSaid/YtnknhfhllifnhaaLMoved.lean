/- FnMoved: for all two lists of bytes the law returns true: what they draw is a cloud; a cloud that is moved by whole cells has its charges moved, parts that are split are the cloud when they are merged, and two streams stand still as a whole. No condition. -/
import Derived.Test.YtnknhfhllifnhaaRows
import Derived.WalkKit
import Derived.ProofKit
import Derived.OpenShut
import Derived.ShutString
import Derived.ChangeOld
import Derived.Below
import Derived.Laws.Cover2
import Derived.Test.YtnknhfhllifnhaaB10C
import Derived.Test.YtnknhfhllifnhaaMov
import Derived.Test.YtnknhfhllifnhaaMrg
import Derived.Test.YtnknhfhllifnhaaMeas
import Derived.Test.YtnknhfhllifnhaaBAt
import Derived.Test.YtnknhfhllifnhaaShift
import Derived.Deep.CutRange
namespace Go.Proofs.Ytnknhfhllifnhaa.fnMoved
open Go.ChangeShapes Go.WideShapes Go.ChangeAt Go.RowKit Go.Fl
open Go.ChangeMaps (open_string shut_string)
set_option linter.unusedVariables false
open Go.Nl (NS)
set_option linter.unusedSimpArgs false

theorem dyl_lt {xs : List Nat} {F : Nat → Int} (h : DyL xs F) : ∀ x ∈ xs, x < 2 ^ FloatKind.f32.format.width := by
  intro x hx
  obtain ⟨j, hj, rfl⟩ := List.mem_iff_getElem.1 hx
  have := (h j hj).lt
  rwa [List.getD_eq_getElem?_getD, List.getElem?_eq_getElem hj, Option.getD_some] at this
theorem own_fs {B : Nat} {w : World} {v : Value} {xs : List Nat} (h : FOwn B w v xs) (hp : 0 < xs.length) (hw : ∀ x ∈ xs, x < 2 ^ FloatKind.f32.format.width) : FS .f32 w v xs := by
  obtain ⟨g, cap, rfl⟩ := Joins.ownsRow_form h hp
  exact own_FS h hw
theorem sum_map (f g : Pt → Int) (m : Pt → Pt) (ts : List Pt) (h : ∀ t, f (m t) = g t) (k : Nat) : sumI f (ts.map m) k = sumI g ts k := by
  unfold sumI
  rw [← List.map_take, List.map_map]
  congr 2
  funext t
  exact h t


theorem fs_at {w : World} {g n c : Nat} {xs : List Nat} (h : FS .f32 w (.slice (some ⟨g, 0, none⟩) n c) xs) {i : Nat} (hi : i < xs.length) : w.cell? ⟨g, i, none⟩ = some (.float .f32 (xs.getD i 0)) := by
  obtain ⟨a, cap, e, hlc, hcm, hwf, hmem⟩ := h
  simp only [Value.slice.injEq] at e
  obtain ⟨rfl, rfl, rfl⟩ := e
  rcases hmem with h | ⟨b, off, e, hb, hc⟩
  · rw [h] at hi; simp at hi
  · simp only [Option.some.injEq, Addr.mk.injEq, and_true] at e
    obtain ⟨rfl, rfl⟩ := e
    have := hc i hi
    rwa [Nat.zero_add] at this
theorem own_row' {B k : Nat} {w : World} {v : Value} {ts : List R4} (h : R4Own B w v ts) (hk : ∀ j, v.ownBlock = some j → k ≠ j) (cs : Array Value) : R4Own B (w.setRow k cs) v ts := by
  refine World.ownsRow.kept (row := some k) h ⟨rfl, rfl, rfl, by simp [World.setRow], fun j hj hr => setRow_other w k j cs (fun e => hr (by rw [e]))⟩ ?_
  cases hb : v.ownBlock with
  | none => exact .inl rfl
  | some j => exact .inr (fun e => hk j hb (Option.some.inj e).symm)
theorem ceq_run (P : Program) (t : TypeId) {x y x' y' : Nat} (h1 : fcmp .eql .f32 x x' = true) (h2 : fcmp .eql .f32 y y' = true) (w : World) :
    (binOp .eql t (.complex .f32 x y) (.complex .f32 x' y')).run P w = .ok (.bool true) w := by
  have e1 : (FloatKind.f32.format.order x x' == some .eq) = true := h1
  have e2 : (FloatKind.f32.format.order y y' == some .eq) = true := h2
  simp [binOp, Op.complexOp, Op.Complex.cmp, Op.floatCmp, asBool, e1, e2]
theorem wpList_ceq {P : Program} {w : World} {ops : Array Oper} {rest : List Oper} {a : Act} {Q : Exit → Act → World → Prop} {dst : Option Tmp} {xt yt ty : TypeId} {X Y : Operand} {pos : String} {after : Array Edge} {gd : Option (Nat × Bool)}
    (hw : Region.wanted ⟨dst, .binOp .eql xt X Y yt, ty, pos, after, gd⟩ (yielded ops a.tmps) = true) {x y x' y' : Nat} (hX : a.eval X = .complex .f32 x y) (hY : a.eval Y = .complex .f32 x' y') (h1 : fcmp .eql .f32 x x' = true) (h2 : fcmp .eql .f32 y y' = true)
    (h : wpList P ops Q rest (a.put dst (.bool true)) w) : wpList P ops Q (⟨dst, .binOp .eql xt X Y yt, ty, pos, after, gd⟩ :: rest) a w := by
  refine wpList_do hw fun K hK => ?_
  have hg : (eqGuard .eql xt X Y (.complex .f32 x y) (.complex .f32 x' y')) = pure () := by first | rfl | simp [eqGuard]
  unfold Oper.wp
  simp [execOp, hX, hY, hg, ceq_run P xt h1 h2 w, Result.andThen]
  exact hK _ _ h
theorem geq_of_lss {k : FloatKind} {x y : Nat} (h : fcmp .lss k x y = true) : fcmp .geq k x y = false := by
  unfold fcmp at h ⊢
  dsimp only at h ⊢
  have e : k.format.order x y = some .lt := by simpa using h
  rw [e]; rfl
theorem part_ok {p : Pt → Bool} {ts : List Pt} (h : oks ts) (k : Nat) : oks (partTo p ts k) := by
  intro t ht
  unfold partTo at ht
  exact h t (List.mem_of_mem_take (List.mem_filter.1 ht).1)
theorem part_p {p : Pt → Bool} {ts : List Pt} {k : Nat} : ∀ t ∈ partTo p ts k, p t = true := by
  intro t ht
  unfold partTo at ht
  exact (List.mem_filter.1 ht).2
theorem two_rows (w : World) (o : Array Value) (x y : Array Value) (t : TypeId) : (((w.alloc (.cells o t)).alloc (.cells o t)).setRow w.heap.size x |>.setRow (w.heap.size + 1) y).heap[w.heap.size]? = some (.cells x t) ∧ (((w.alloc (.cells o t)).alloc (.cells o t)).setRow w.heap.size x |>.setRow (w.heap.size + 1) y).heap[w.heap.size + 1]? = some (.cells y t) ∧
    ((w.alloc (.cells o t)).alloc (.cells o t)).heap[w.heap.size]? = some (.cells o t) ∧ (((w.alloc (.cells o t)).alloc (.cells o t)).setRow w.heap.size x).heap[w.heap.size + 1]? = some (.cells o t) ∧ Below w.heap.size w (((w.alloc (.cells o t)).alloc (.cells o t)).setRow w.heap.size x |>.setRow (w.heap.size + 1) y) := by
  have h1 := heap_alloc2_old w (.cells o t) (.cells o t)
  have h2 := heap_alloc2_new w (.cells o t) (.cells o t)
  have h3 := setRow_heap _ _ o x _ _ h1
  have h4 := (setRow_other ((w.alloc (.cells o t)).alloc (.cells o t)) w.heap.size (w.heap.size + 1) x (by omega)).trans h2
  have h5 := setRow_heap _ _ o y _ _ h4
  exact ⟨(setRow_other _ _ _ y (by omega)).trans h3, h5, h1, h4, below_setRow (below_setRow (((Below.refl w.heap.size w).alloc (Nat.le_refl _) _).alloc (by simp) _) (Nat.le_refl _) x) (by omega) y⟩
theorem split_len (ts : List Pt) : (partTo inL ts ts.length).length + (partTo (fun t => !inL t) ts ts.length).length = ts.length := by
  unfold partTo
  rw [List.take_length]
  induction ts with
  | nil => rfl
  | cons t ts ih =>
    rw [List.filter_cons, List.filter_cons]
    cases inL t <;> simp <;> omega

set_option maxHeartbeats 4000000 in
set_option maxRecDepth 100000 in
theorem walk (a0 : Option Addr) (len0 cap0 : Nat) (z0 : List Int) (a1 : Option Addr) (len1 cap1 : Nat) (z1 : List Int) (w : World) (w0 : NS .u8 w (.slice a0 len0 cap0) z0) (w1 : NS .u8 w (.slice a1 len1 cap1) z1) :
    Calls Try.prog 4 #[.slice a0 len0 cap0, .slice a1 len1 cap1] w fun e w' => e = .returned (.bool true) ∧ Below w.heap.size w w' := by
  have HC := Lib.hid w0
  have HM := Lib.hid w1
  clear w0 w1
  by_cases hl : (1048576 < len0 ∨ 1048576 < len1)
  · have HL := Lib.hid (show decide (1048576 < len0 ∨ 1048576 < len1) = true from decide_eq_true hl)
    clear hl
    go_enter Try.func4, Try.ntmps4
    go_wp2_with fail
    refine (bLong_any _ _ _ _ _ _ _).mono ?_; rw [HL.out]; rintro e w' ⟨rfl, rfl⟩
    go_wp2_with fail
    go_ret
    exact ⟨rfl, Below.refl _ _⟩
  have HL := Lib.hid (show decide (1048576 < len0 ∨ 1048576 < len1) = false from decide_eq_false hl)
  clear hl
  go_enter Try.func4, Try.ntmps4
  go_wp2_with fail
  refine (bLong_any _ _ _ _ _ _ _).mono ?_; rw [HL.out]; rintro e w' ⟨rfl, rfl⟩
  go_wp2_with fail
  refine (sB10Cloud_any _ z0 _ HC.out).mono ?_
  rintro e v1 ⟨a, b, V, ts, M, C, ha, ha', hb, hb', hts, hat, hm0, hm1, hc0, hc1, rfl, O1, hbl⟩
  obtain ⟨av, cap, rfl, hfv⟩ := p_form O1
  have HAT := Lib.hid hat
  have HOK := Lib.hid (show oks ts from fun t ht => (hat t ht).ok)
  have HDM := Lib.hid (dy_e8 M (by omega) (by omega)); have HDC := Lib.hid (dy_e8 C (by omega) (by omega))
  have HG := Lib.hid (grid_small ha ha' hb (show b ≤ 7 by omega))
  have hal := (Below.refl v1.heap.size v1).alloc (Nat.le_refl _) (.cells (CGc a b (.slice av ts.length cap) (E8 M) (E8 C)) 48)
  have HX0 := Lib.hid (heap_alloc_new v1 (.cells (CGc a b (.slice av ts.length cap) (E8 M) (E8 C)) 48))
  have HO1 := Lib.hid (r4_below O1 hal)
  have HB0 := Lib.hid (hbl.trans (hal.mono hbl.size))
  have HZ0 := Lib.hid (show v1.heap.size < (v1.alloc (.cells (CGc a b (.slice av ts.length cap) (E8 M) (E8 C)) 48)).heap.size by simp)
  clear hat O1 hbl hal
  generalize hMM : E8 M = mg at *
  generalize hCC : E8 C = bk at *
  clear hMM hCC
  go_wp2_with fail
  generalize v1.alloc (.cells (CGc a b (.slice av ts.length cap) mg bk) 48) = v2 at HX0 HO1 HB0 HZ0 ⊢
  generalize v1.heap.size = cb at HX0 HZ0 ⊢
  refine (bAt0_any _ _ _ z1 _ (HM.out.below HB0.out)).mono ?_
  rintro e w2 ⟨⟨x, rfl, hx0, hx1⟩, hw2⟩
  obtain rfl := hw2.symm
  clear hw2
  have hwx : wrap64 (x - 4) = x - 4 := wrap64_of (by omega) (by omega)
  go_wp2_with fail
  refine (bAt1_any _ _ _ z1 _ (HM.out.below HB0.out)).mono ?_
  rintro e w3 ⟨⟨y, rfl, hy0, hy1⟩, hw3⟩
  obtain rfl := hw3.symm
  clear hw3
  have hwy : wrap64 (y - 4) = y - 4 := wrap64_of (by omega) (by omega)
  have HEV := Lib.hid (fun W (hW : Below v2.heap.size v2 W) => five_cells ((hW.block cb HZ0.out).trans HX0.out))
  obtain ⟨e0, e1, e2, e3, e4⟩ := HEV.out v2 (Below.refl _ _)
  go_wp2_with fail
  clear hwx hwy e0 e1 e2 e3 e4
  have hX : -4 ≤ x - 4 ∧ x - 4 ≤ 4 := by omega
  have hY : -4 ≤ y - 4 ∧ y - 4 ≤ 4 := by omega
  generalize x - 4 = X at hX ⊢
  generalize y - 4 = Y at hY ⊢
  clear hx0 hx1 hy0 hy1
  refine (iMoveCloud_pt a b X Y ha ha' hb (by omega) hX hY _ _ ts mg bk M C _ HO1.out HOK.out (fun t ht => by have h := HAT.out t ht; have h1 := h.n0; have h2 := h.n1; have h3 := h.m0; have h4 := h.m1; omega) (by omega) HDM.out HDC.out).mono ?_
  rintro e v3 ⟨⟨V3, rfl, O3⟩, hb3⟩
  obtain ⟨mv, mc, rfl, _⟩ := p_form O3
  rw [List.length_map] at O3
  rw [List.length_map]
  have HK3 := Lib.hid (oks_mv (x := X) (y := Y) HOK.out ha ha' hb (show b ≤ 7 by omega))
  have hal := (Below.refl v3.heap.size v3).alloc (Nat.le_refl _) (.cells (CGc a b (.slice mv ts.length mc) mg bk) 48)
  have HX3 := Lib.hid (heap_alloc_new v3 (.cells (CGc a b (.slice mv ts.length mc) mg bk) 48))
  have HO3 := Lib.hid (r4_below O3 hal); have HO1 := Lib.hid (r4_below (r4_below HO1.out hb3) hal)
  have D3 := Lib.hid (hb3.trans (hal.mono hb3.size))
  have HZ3 := Lib.hid (show v3.heap.size < (v3.alloc (.cells (CGc a b (.slice mv ts.length mc) mg bk) 48)).heap.size by simp)
  obtain ⟨e0, e1, e2, e3, e4⟩ := HEV.out _ D3.out
  clear O3 hb3 hal
  go_wp2_with fail
  clear e0 e1 e2 e3 e4
  generalize v3.alloc (.cells (CGc a b (.slice mv ts.length mc) mg bk) 48) = v4 at HX3 HO3 HO1 D3 HZ3 ⊢
  generalize v3.heap.size = mb at HX3 HZ3 ⊢
  refine (iCloudCharge_pt a b ha ha' hb (by omega) _ _ ts mg bk M C _ HO1.out HOK.out (by omega) HDM.out HDC.out (by omega) (by omega)).mono ?_
  rintro e v5 ⟨⟨V5, xs, rfl, O5, hxl, hdx⟩, hb5⟩
  have hm1 : a * b ≤ 7 * 6 := Int.mul_le_mul ha' hb' (by omega) (by omega)
  have hm0 : 4 * 4 ≤ a * b := Int.mul_le_mul ha hb (by omega) (by omega)
  have hn256 : xs.length ≤ 42 := by omega
  have hn16 : 16 ≤ xs.length := by omega
  obtain ⟨gx, cx, rfl⟩ := Joins.ownsRow_form O5 (by omega)
  have HF := Lib.hid (own_fs O5 (by omega) (dyl_lt hdx)); have HX := Lib.hid hdx; have HXL := Lib.hid hxl
  have D5 := Lib.hid (D3.out.trans (hb5.mono D3.out.size))
  have HO3 := Lib.hid (r4_below HO3.out hb5); have HO1 := Lib.hid (r4_below HO1.out hb5)
  have HFK := Lib.hid (show fieldOk a b xs.length = true from by unfold fieldOk; rw [HG.out, wrap_i64, wrap64_of (by omega) (by omega), hxl]; simp)
  have HMB := Lib.hid (fun W (hW : Below v4.heap.size v4 W) => five_cells ((hW.block mb HZ3.out).trans HX3.out))
  have DM5 := Lib.hid hb5
  obtain ⟨e0, e1, e2, e3, e4⟩ := HMB.out _ DM5.out
  clear O5 hdx hxl hb5 hm1 hm0 D3
  go_wp2_with fail
  clear e0 e1 e2 e3 e4
  refine (iCloudCharge_pt a b ha ha' hb (by omega) _ _ (ts.map (Pt.mv a b X Y)) mg bk M C _ HO3.out HK3.out (by rw [List.length_map]; omega) HDM.out HDC.out (by omega) (by omega)).mono ?_
  rintro e v6 ⟨⟨V6, ys, rfl, O6, hyl, hdy⟩, hb6⟩
  rw [List.length_map] at hdy
  have hyn : ys.length = xs.length := by have := HXL.out; omega
  obtain ⟨gy, cy, rfl⟩ := Joins.ownsRow_form O6 (by omega)
  have HFY := Lib.hid (own_fs O6 (by omega) (dyl_lt hdy))
  have HY := Lib.hid (show DyL ys (fun j => sumI (depAt a b (shI a b X Y (j % a.toNat) (j / a.toNat))) ts ts.length + C * 64) from fun j hj => by
    have h1 := hdy j hj
    dsimp only at h1 ⊢
    rw [sum_map (depAt a b j) (depAt a b (shI a b X Y (j % a.toNat) (j / a.toNat))) (Pt.mv a b X Y) ts (fun t => dep_mv ha ha' hb (by omega) X Y j (by have := HXL.out; omega) t) ts.length] at h1
    exact h1)
  have HF := Lib.hid (HF.out.below hb6); have HO1 := Lib.hid (r4_below HO1.out hb6)
  have D6 := Lib.hid (D5.out.trans (hb6.mono D5.out.size))
  obtain ⟨e0, e1, e2, e3, e4⟩ := HEV.out _ D6.out
  have HYN := Lib.hid hyn
  clear O6 hdy hb6 hyl D5 DM5 HMB HO3 HK3 HX3 HZ3 hyn
  go_wp2_with fail
  clear e0 e1 e2 e3 e4
  refine (sShift_yes a b _ xs X Y _ HF.out HFK.out (by omega) (by omega)).mono ?_
  rintro e v7 ⟨⟨V7, rfl, ⟨rs, hrl, hre, O7⟩⟩, hb7⟩
  have HZS := Lib.hid (show DyL rs (fun j => sumI (depAt a b (shI a b X Y (j % a.toNat) (j / a.toNat))) ts ts.length + C * 64) from fun j hj => by
    have h1 := hre j hj
    have h2 := (shI_facts (a := a) (b := b) X Y (j % a.toNat) (j / a.toNat) ha hb).2
    have h3 := HX.out (shI a b X Y (j % a.toNat) (j / a.toNat)) (by have := HXL.out; omega)
    unfold shF at h1
    rw [cn_of .f32 h3.nan] at h1
    exact dyis h3 h1)
  obtain ⟨gz, cz, hV7⟩ := Joins.ownsRow_form O7 (by omega)
  subst hV7
  have HFZ := Lib.hid (own_fs O7 (by omega) (dyl_lt HZS.out))
  have HFY := Lib.hid (HFY.out.below hb7); have HO1 := Lib.hid (r4_below HO1.out hb7)
  have D7 := Lib.hid (D6.out.trans (hb7.mono D6.out.size))
  have HRL := Lib.hid hrl
  clear O7 hre hb7 D6 HF HX HFK hrl
  have hq : (rs.length : Int) = (ys.length : Int) := by have := HRL.out; have := HYN.out; omega
  go_wp2_with fail
  have HD0 := Lib.hid (Below.refl v7.heap.size v7)
  go_loopw [92] (fun i wr => ∃ q : Nat, q ≤ ys.length ∧ i = .int .i64 (q : Int) ∧ Hid (Below v7.heap.size v7 wr)) (fun i _ => ys.length - (intOf i).toNat)
  case atStart => exact ⟨0, Nat.zero_le _, rfl, HD0⟩
  case round =>
    clear HD0 hq
    obtain ⟨q, hq, rfl, HB⟩ := hrel
    by_cases hlt : q < ys.length
    · have HQL := Lib.hid hlt
      have y0 := fs_at (HFY.out.below HB.out) hlt
      have z0 := fs_at (HFZ.out.below HB.out) (i := q) (by have := HRL.out; have := HYN.out; omega)
      have j1 := HY.out q hlt
      have j2 := HZS.out q (by have := HRL.out; have := HYN.out; omega)
      have HN := Lib.hid (show fcmp .neq .f32 (ys.getD q 0) (rs.getD q 0) = false by rw [j1.dv.neq j2.dv]; simp)
      have hi1 : (q : Int) < (ys.length : Int) := by omega
      have hi2 : (q : Int) < (rs.length : Int) := by have := HRL.out; have := HYN.out; omega
      have hi0 : (0 : Int) ≤ (q : Int) := Int.natCast_nonneg _
      clear j1 j2
      generalize ys.getD q 0 = yq at y0 HN
      generalize rs.getD q 0 = zq at z0 HN
      go_upto_region 15 with fail
      have hd := (Below.refl wr.heap.size wr).drew
      refine wp_region_noPanic ?_
      refine wp_region_held_drew (S := fun W => W.cell? ⟨gy, q, none⟩ = some (.float .f32 yq) ∧ W.cell? ⟨gz, q, none⟩ = some (.float .f32 zq)) (by kernel_rfl) ⟨y0, z0⟩ (fun hHeld => ?_)
      generalize wr.drew = v0 at hd hHeld ⊢
      ((refine wpAnyH_take (i := 0) (v := ?_) rfl (by kernel_rfl) (by kernel_rfl) (by kernel_rfl) (fun _ _ _ h => h) (Or.inl ⟨by rfl, ?_⟩) (by assumption) ?_; rotate_left; (· intro w hSw; (try dsimp only at hSw); go_simp; first | done | with_reducible rfl); (try simp only [List.getElem_toArray, List.getElem_cons_zero, List.getElem_cons_succ, Act.put, List.setIfInBounds_toArray, List.set_cons_zero, List.set_cons_succ])); (refine wpAnyH_take (i := 1) (v := ?_) rfl (by kernel_rfl) (by kernel_rfl) (by kernel_rfl) (fun _ _ _ h => h) (Or.inl ⟨by rfl, ?_⟩) (by assumption) ?_; rotate_left; (· intro w hSw; (try dsimp only at hSw); go_simp; first | done | with_reducible rfl); (try simp only [List.getElem_toArray, List.getElem_cons_zero, List.getElem_cons_succ, Act.put, List.setIfInBounds_toArray, List.set_cons_zero, List.set_cons_succ])); (refine wpAnyH_take (i := 2) (v := ?_) rfl (by kernel_rfl) (by kernel_rfl) (by kernel_rfl) (fun _ _ _ h => h) (Or.inl ⟨by rfl, ?_⟩) (by assumption) ?_; rotate_left; (· intro w hSw; (try dsimp only at hSw); go_simp; first | done | with_reducible rfl); (try simp only [List.getElem_toArray, List.getElem_cons_zero, List.getElem_cons_succ, Act.put, List.setIfInBounds_toArray, List.set_cons_zero, List.set_cons_succ])); (refine wpAnyH_take (i := 3) (v := ?_) rfl (by kernel_rfl) (by kernel_rfl) (by kernel_rfl) (fun _ _ _ h => h) (Or.inl ⟨by rfl, ?_⟩) (by assumption) ?_; rotate_left; (· intro w hSw; (try dsimp only at hSw); go_simp; first | done | with_reducible rfl); (try simp only [List.getElem_toArray, List.getElem_cons_zero, List.getElem_cons_succ, Act.put, List.setIfInBounds_toArray, List.set_cons_zero, List.set_cons_succ])); (refine wpAnyH_take (i := 4) (v := ?_) rfl (by kernel_rfl) (by kernel_rfl) (by kernel_rfl) (fun _ _ _ h => h) (Or.inl ⟨by rfl, ?_⟩) (by assumption) ?_; rotate_left; (· intro w hSw; (try dsimp only at hSw); go_simp; first | done | with_reducible rfl); (try simp only [List.getElem_toArray, List.getElem_cons_zero, List.getElem_cons_succ, Act.put, List.setIfInBounds_toArray, List.set_cons_zero, List.set_cons_succ])); (refine wpAnyH_take (i := 5) (v := ?_) rfl (by kernel_rfl) (by kernel_rfl) (by kernel_rfl) (fun _ _ _ h => h) (Or.inl ⟨by rfl, ?_⟩) (by assumption) ?_; rotate_left; (· intro w hSw; (try dsimp only at hSw); go_simp; first | done | with_reducible rfl); (try simp only [List.getElem_toArray, List.getElem_cons_zero, List.getElem_cons_succ, Act.put, List.setIfInBounds_toArray, List.set_cons_zero, List.set_cons_succ])); (refine wpAnyH_take (i := 6) (v := ?_) rfl (by kernel_rfl) (by kernel_rfl) (by kernel_rfl) (fun _ _ _ h => h) (Or.inl ⟨by rfl, ?_⟩) (by assumption) ?_; rotate_left; (· intro w hSw; (try dsimp only at hSw); go_simp; first | done | with_reducible rfl); (try simp only [List.getElem_toArray, List.getElem_cons_zero, List.getElem_cons_succ, Act.put, List.setIfInBounds_toArray, List.set_cons_zero, List.set_cons_succ])); (refine wpAnyH_take (i := 7) (v := ?_) rfl (by kernel_rfl) (by kernel_rfl) (by kernel_rfl) (fun _ _ _ h => h) (Or.inl ⟨by rfl, ?_⟩) (by assumption) ?_; rotate_left; (· intro w hSw; (try dsimp only at hSw); go_simp; first | done | with_reducible rfl); (try simp only [List.getElem_toArray, List.getElem_cons_zero, List.getElem_cons_succ, Act.put, List.setIfInBounds_toArray, List.set_cons_zero, List.set_cons_succ])))
      (refine wpAnyH_take (i := 8) (v := _) rfl (by kernel_rfl) (by kernel_rfl) (by kernel_rfl) (fun _ _ _ h => h) (yields_fc (by rfl) .neq _ _ _ _ rfl rfl .f32 _ _ rfl rfl (HN.out)) (by assumption) ?_; (try simp only [List.getElem_toArray, List.getElem_cons_zero, List.getElem_cons_succ, Act.put, List.setIfInBounds_toArray, List.set_cons_zero, List.set_cons_succ]))
      (refine wpAnyH_done (by kernel_rfl) ?_ _; refine NoPanic.normal ?_)
      clear hHeld y0 z0 hi2
      have hyb : ys.length ≤ 42 := by have := HYN.out; omega
      go_wp2_with fail
      go_roundw
      case rel => exact ⟨q + 1, by omega, by go_num, Lib.hid (HB.out.trans (hd.mono HB.out.size))⟩
      case measure => simp [intOf]; omega
    · obtain rfl : q = ys.length := by omega
      clear hlt hq
      have D8 := Lib.hid (D7.out.trans (HB.out.mono D7.out.size))
      have HO8 := Lib.hid (r4_below HO1.out HB.out)
      clear HB D7 HO1 HFY HFZ HY HZS HRL HYN HXL
      obtain ⟨e0, e1, e2, e3, e4⟩ := HEV.out _ D8.out
      go_wp2_with fail
      clear e0 e1 e2 e3 e4
      refine (iSplit_pt a b HG.out _ _ ts mg bk _ HO8.out HOK.out (by omega) (num_dy HDM.out) (num_dy HDC.out)).mono ?_
      rintro e v9 ⟨⟨lv, rv, rfl, hnl, hnr⟩, hb9⟩
      have HSL := Lib.hid (split_len ts)
      have HPL := Lib.hid (And.intro (part_ok (p := inL) HOK.out ts.length) (part_p (p := inL) (ts := ts) (k := ts.length)))
      have HPR := Lib.hid (And.intro (part_ok (p := fun t => !inL t) HOK.out ts.length) (part_p (p := fun t => !inL t) (ts := ts) (k := ts.length)))
      have HNL := Lib.hid hnl; have HNR := Lib.hid hnr
      clear hnl hnr
      generalize partTo inL ts ts.length = Ls at HSL HPL HNL
      generalize partTo (fun t => !inL t) ts ts.length = Rs at HSL HPR HNR
      obtain ⟨la, lc, rfl, hfl⟩ := p_form HNL.out.own
      obtain ⟨ra, rc, rfl, hfr⟩ := p_form HNR.out.own
      have HR9 := Lib.hid (two_rows v9 (CC 0 0 (.slice none 0 0) 0) (CGc a b (.slice la Ls.length lc) mg bk) (CGc a b (.slice ra Rs.length rc) mg bk) 48)
      have D9 := Lib.hid ((D8.out.trans (hb9.mono D8.out.size)).trans (HR9.out.2.2.2.2.mono (D8.out.trans (hb9.mono D8.out.size)).size))
      have HNL := Lib.hid (n_below HNL.out HR9.out.2.2.2.2); have HNR := Lib.hid (n_below HNR.out HR9.out.2.2.2.2)
      have HO9 := Lib.hid (r4_below (r4_below HO8.out hb9) HR9.out.2.2.2.2)
      obtain ⟨e0, e1, e2, e3, e4⟩ := five_cells HR9.out.1
      obtain ⟨g0, g1, g2, g3, g4⟩ := five_cells HR9.out.2.1
      clear hb9 D8 HO8
      go_wp2_with (first
        | ((with_reducible show wpList _ _ _ (Oper.mk none (Op.store _ (Operand.tmp 17) _) _ _ _ _ :: _) _ _); refine wpList_store_row rfl 48 _ _ rfl v9.heap.size (CGc a b (.slice la Ls.length lc) mg bk) rfl rfl 48 _ HR9.out.2.2.1 info_cloud rfl (one5 _ _ _ _ _ _ _) ?_)
        | ((with_reducible show wpList _ _ _ (Oper.mk none (Op.store _ (Operand.tmp 18) _) _ _ _ _ :: _) _ _); refine wpList_store_row rfl 48 _ _ rfl (v9.heap.size + 1) (CGc a b (.slice ra Rs.length rc) mg bk) rfl rfl 48 _ HR9.out.2.2.2.1 info_cloud rfl (one5 _ _ _ _ _ _ _) ?_))
      clear e0 e1 e2 e3 e4 g0 g1 g2 g3 g4
      have HBL := Lib.hid HR9.out.1; have HBR := Lib.hid HR9.out.2.1
      generalize (((v9.alloc (.cells (CC 0 0 (.slice none 0 0) 0) 48)).alloc (.cells (CC 0 0 (.slice none 0 0) 0) 48)).setRow v9.heap.size (CGc a b (.slice la Ls.length lc) mg bk)).setRow (v9.heap.size + 1) (CGc a b (.slice ra Rs.length rc) mg bk) = u1 at HBL HBR D9 HNL HNR HO9 ⊢
      clear HR9
      generalize v9.heap.size = kb at HBL HBR HNL HNR ⊢
      have HEL := Lib.hid (fun W (hW : Below u1.heap.size u1 W) => And.intro (five_cells ((hW.block kb (Array.getElem?_eq_some_iff.1 HBL.out).1).trans HBL.out)) (five_cells ((hW.block (kb + 1) (Array.getElem?_eq_some_iff.1 HBR.out).1).trans HBR.out)))
      refine (iMerge_pt a b HG.out _ _ _ Ls Rs mg bk _ HNL.out HNR.out HPL.out.1 HPR.out.1 (by have := HSL.out; omega) (num_dy HDM.out) (num_dy HDC.out)).mono ?_
      rintro e v10 ⟨⟨V10, rfl, O10⟩, hb10⟩
      obtain ⟨va, vc, rfl, _⟩ := p_form O10
      rw [List.length_append, HSL.out]
      have hal := hb10.alloc hb10.size (.cells (CGc a b (.slice va ts.length vc) mg bk) 48)
      have D10 := Lib.hid (D9.out.trans (hal.mono D9.out.size))
      have DU := Lib.hid hal
      obtain ⟨e0, e1, e2, e3, e4⟩ := HEV.out _ D10.out
      obtain ⟨⟨l0, l1, l2, l3, l4⟩, ⟨r0, r1, r2, r3, r4⟩⟩ := HEL.out _ DU.out
      have hbx := (five_cells (heap_alloc_new v10 (.cells (CGc a b (.slice va ts.length vc) mg bk) 48))).2.2.1
      clear O10 hb10 hal
      go_wp2_with fail
      clear e0 e1 e2 e3 e4 l0 l1 l2 l3 l4 r0 r1 r2 r3 r4 hbx
      generalize v10.alloc (.cells (CGc a b (.slice va ts.length vc) mg bk) 48) = u2 at D10 DU ⊢
      generalize v10.heap.size = nb at *
      have HD0 := Lib.hid (Below.refl u2.heap.size u2)
      have hLb : Ls.length ≤ 6 := by have := HSL.out; omega
      have hRb : Rs.length ≤ 6 := by have := HSL.out; omega
      go_loopw [135] (fun i wq => ∃ q : Nat, q ≤ Ls.length ∧ i = .int .i64 (q : Int) ∧ Hid (Below u2.heap.size u2 wq)) (fun i _ => Ls.length - (intOf i).toNat)
      case atStart => exact ⟨0, Nat.zero_le _, rfl, HD0⟩
      case round =>
      clear HD0
      obtain ⟨q, hq, rfl, HB⟩ := hrel
      by_cases hlt : q < Ls.length
      · rcases hfl with hfl | ⟨gl, rfl, _, _⟩
        · subst hfl; simp at hlt
        obtain ⟨c0, _, _, _⟩ := p_cells (r4_below HNL.out.own (DU.out.trans (HB.out.mono DU.out.size))) hlt
        have hok := oks_at HPL.out.1 hlt
        have hin := HPL.out.2 _ (List.getElem_mem hlt)
        have hdy := dy_e8 Ls[q].n hok.n0 hok.n1
        have hge : fcmp .geq .f32 (E8 Ls[q].n) 1077936128 = false := geq_of_lss (by rw [hdy.lss three_dy]; exact hin)
        have ie := hdy.is
        have l2 := (HEL.out _ (DU.out.trans (HB.out.mono DU.out.size))).1.2.2.1
        generalize Ls[q] = t at c0 hge ie
        clear hok hin hdy
        go_wp2_with (apply wpList_fcmp; rfl; rfl; rfl; rfl; (first | with_reducible assumption | exact Is.const rfl); (first | with_reducible assumption | exact Is.const rfl); (first | with_reducible assumption | exact rfl))
        go_roundw
        case rel => exact ⟨q + 1, by omega, by go_num, HB⟩
        case measure => simp [intOf]; omega
      · obtain rfl : q = Ls.length := by omega
        clear hlt hq
        have HD11 := D10.out.trans (HB.out.mono D10.out.size)
        have DU2 := Lib.hid (DU.out.trans (HB.out.mono DU.out.size))
        have r2 := (HEL.out _ DU2.out).2.2.2.1
        clear HB D10 DU
        go_wp2_with fail
        clear r2
        obtain ⟨u3, hu3⟩ : ∃ u3, u3 = wr := ⟨wr, rfl⟩
        subst hu3
        have D11 := Lib.hid HD11
        clear HD11
        have HD0 := Lib.hid (Below.refl u3.heap.size u3)
        go_loopw [150] (fun i wq => ∃ q : Nat, q ≤ Rs.length ∧ i = .int .i64 (q : Int) ∧ Hid (Below u3.heap.size u3 wq)) (fun i _ => Rs.length - (intOf i).toNat)
        case atStart => exact ⟨0, Nat.zero_le _, rfl, HD0⟩
        case round =>
        clear HD0
        obtain ⟨q, hq, rfl, HB⟩ := hrel
        by_cases hlt : q < Rs.length
        · rcases hfr with hfr | ⟨gr, rfl, _, _⟩
          · subst hfr; simp at hlt
          obtain ⟨c0, _, _, _⟩ := p_cells (r4_below HNR.out.own (DU2.out.trans (HB.out.mono DU2.out.size))) hlt
          have hok := oks_at HPR.out.1 hlt
          have hin := HPR.out.2 _ (List.getElem_mem hlt)
          have hdy := dy_e8 Rs[q].n hok.n0 hok.n1
          have hge : fcmp .lss .f32 (E8 Rs[q].n) 1077936128 = false := by rw [hdy.lss three_dy]; unfold inL at hin; simpa using hin
          have ie := hdy.is
          have l2 := (HEL.out _ (DU2.out.trans (HB.out.mono DU2.out.size))).2.2.2.1
          generalize Rs[q] = t at c0 hge ie
          clear hok hin hdy
          go_wp2_with (apply wpList_fcmp; rfl; rfl; rfl; rfl; (first | with_reducible assumption | exact Is.const rfl); (first | with_reducible assumption | exact Is.const rfl); (first | with_reducible assumption | exact rfl))
          go_roundw
          case rel => exact ⟨q + 1, by omega, by go_num, HB⟩
          case measure => simp [intOf]; omega
        · obtain rfl : q = Rs.length := by omega
          clear hlt hq
          have D12 := Lib.hid (D11.out.trans (HB.out.mono D11.out.size))
          clear HB D11 DU2 hLb hRb
          go_upto_region 34 with fail
          have HS := Lib.hid (fun W (hW : Below wr.heap.size wr W) => And.intro (HEV.out W (D12.out.trans (hW.mono D12.out.size))).1 (HEV.out W (D12.out.trans (hW.mono D12.out.size))).2.1)
          go_cut [24, 25] from 163 to 170 (fun p o wx => ∃ (kb2 : Nat) (v9 : Value) (ss : List Pq) (kk c : Nat), p = .pointer (some ⟨kb2, 0, none⟩) ∧ o = .bool true ∧ Hid (1 ≤ c ∧ c ≤ 8) ∧ Hid (ss.length = 2 * c ∧ Stream ss ∧ Num kk) ∧ Hid (wx.heap[kb2]? = some (.cells (CGc a b v9 0 kk) 48)) ∧ Hid (QOwn 0 wx v9 ss) ∧ Hid (Below v2.heap.size v2 wx))
          case first =>
            have hd := (Below.refl wr.heap.size wr).drew
            refine wp_region_noPanic ?_
            refine wp_region_held_drew (S := fun W => W.cell? ⟨cb, 0, none⟩ = some (.int .i64 a) ∧ W.cell? ⟨cb, 1, none⟩ = some (.int .i64 b)) (by kernel_rfl) (HS.out _ hd) (fun hHeld => ?_)
            generalize wr.drew = v0 at hd hHeld ⊢
            ((refine wpAnyH_take (i := 0) (v := ?_) rfl (by kernel_rfl) (by kernel_rfl) (by kernel_rfl) (fun _ _ _ h => h) (Or.inl ⟨by rfl, ?_⟩) (by assumption) ?_; rotate_left; (· intro w hSw; (try dsimp only at hSw); go_simp; first | done | with_reducible rfl); (try simp only [List.getElem_toArray, List.getElem_cons_zero, List.getElem_cons_succ, Act.put, List.setIfInBounds_toArray, List.set_cons_zero, List.set_cons_succ])); (refine wpAnyH_take (i := 1) (v := ?_) rfl (by kernel_rfl) (by kernel_rfl) (by kernel_rfl) (fun _ _ _ h => h) (Or.inl ⟨by rfl, ?_⟩) (by assumption) ?_; rotate_left; (· intro w hSw; (try dsimp only at hSw); go_simp; first | done | with_reducible rfl); (try simp only [List.getElem_toArray, List.getElem_cons_zero, List.getElem_cons_succ, Act.put, List.setIfInBounds_toArray, List.set_cons_zero, List.set_cons_succ])); (refine wpAnyH_take (i := 2) (v := ?_) rfl (by kernel_rfl) (by kernel_rfl) (by kernel_rfl) (fun _ _ _ h => h) (Or.inl ⟨by rfl, ?_⟩) (by assumption) ?_; rotate_left; (· intro w hSw; (try dsimp only at hSw); go_simp; first | done | with_reducible rfl); (try simp only [List.getElem_toArray, List.getElem_cons_zero, List.getElem_cons_succ, Act.put, List.setIfInBounds_toArray, List.set_cons_zero, List.set_cons_succ])))
            refine wpAnyH_ready (rs := [3, 9]) (by kernel_rfl) (by simp) ?_
            refine AllReadyH.cons (i := 3) rfl (fun K hK => ?_) (AllReadyH.cons (i := 9) rfl (fun K hK => ?_) AllReadyH.nil)
            · skip
              go_simp
              refine (bAt2_any _ _ _ z1 _ (HM.out.below (HB0.out.trans ((D12.out.trans (hd.mono D12.out.size)).mono HB0.out.size)))).mono ?_
              rintro e wz ⟨⟨z, rfl, hz0, hz1⟩, hwz0⟩
              obtain rfl := hwz0.symm
              clear hwz0
              obtain ⟨c, hcz⟩ : ∃ c : Nat, (c : Int) = 1 + z := ⟨(1 + z).toNat, by omega⟩
              have hwz : IntKind.i64.wrap (1 + z) = (c : Int) := by rw [← hcz, IntKind.wrap_i64]; omega
              have HCC := Lib.hid (show 1 ≤ c ∧ c ≤ 8 from by omega)
              clear hcz
              go_wp2_with fail
              (refine hK.out _ _ (HS.out _ hd) (fun hHeld => ?_); clear hK K; (try simp only [List.getElem_toArray, List.getElem_cons_zero, List.getElem_cons_succ, Act.put, List.setIfInBounds_toArray, List.set_cons_zero, List.set_cons_succ]))
              ((refine wpAnyH_take (i := 4) (v := ?_) rfl (by kernel_rfl) (by kernel_rfl) (by kernel_rfl) (fun _ _ _ h => h) (Or.inl ⟨by rfl, ?_⟩) (by assumption) ?_; rotate_left; (· intro w hSw; (try dsimp only at hSw); go_simp; first | done | with_reducible rfl); (try simp only [List.getElem_toArray, List.getElem_cons_zero, List.getElem_cons_succ, Act.put, List.setIfInBounds_toArray, List.set_cons_zero, List.set_cons_succ])))
              refine wpAnyH_ready (rs := [5, 9]) (by kernel_rfl) (by simp) ?_
              refine AllReadyH.cons (i := 5) rfl (fun K hK => ?_) (AllReadyH.cons (i := 9) rfl (fun K hK => ?_) AllReadyH.nil)
              · skip
                go_simp
                try rw [hwz]
                refine (iTwo_str a b ha ha' hb hb' c HCC.out.1 HCC.out.2 _).mono ?_
                clear hwz
                rintro e vx1 ⟨⟨v9, ss, kk, rfl, hsl, hso, hst, hkk⟩, hb9⟩
                have HSTR := Lib.hid (And.intro hsl (And.intro hst hkk))
                have HOS := Lib.hid (show QOwn 0 vx1 v9 ss from Go.Joins.ownsRow_le hso (Nat.zero_le _))
                have hdn := hd.trans (hb9.mono hd.size)
                clear hsl hso hst hkk hb9 hd
                have hd := hdn
                clear hdn
                obtain ⟨sa, sc, rfl, _⟩ := q_form HOS.out
                go_wp2_with fail
                (refine hK.out _ _ (HS.out _ hd) (fun hHeld => ?_); clear hK K; (try simp only [List.getElem_toArray, List.getElem_cons_zero, List.getElem_cons_succ, Act.put, List.setIfInBounds_toArray, List.set_cons_zero, List.set_cons_succ]))
                ((refine wpAnyH_take (i := 6) (v := ?_) rfl (by kernel_rfl) (by kernel_rfl) (by kernel_rfl) (fun _ _ _ h => h) (Or.inl ⟨by rfl, ?_⟩) (by assumption) ?_; rotate_left; (· intro w hSw; (try dsimp only at hSw); go_simp; first | done | with_reducible rfl); (try simp only [List.getElem_toArray, List.getElem_cons_zero, List.getElem_cons_succ, Act.put, List.setIfInBounds_toArray, List.set_cons_zero, List.set_cons_succ])); (refine wpAnyH_take (i := 7) (v := ?_) rfl (by kernel_rfl) (by kernel_rfl) (by kernel_rfl) (fun _ _ _ h => h) (Or.inl ⟨by rfl, ?_⟩) (by assumption) ?_; rotate_left; (· intro w hSw; (try dsimp only at hSw); go_simp; first | done | with_reducible rfl); (try simp only [List.getElem_toArray, List.getElem_cons_zero, List.getElem_cons_succ, Act.put, List.setIfInBounds_toArray, List.set_cons_zero, List.set_cons_succ])); (refine wpAnyH_take (i := 8) (v := ?_) rfl (by kernel_rfl) (by kernel_rfl) (by kernel_rfl) (fun _ _ _ h => h) (Or.inl ⟨by rfl, ?_⟩) (by assumption) ?_; rotate_left; (· intro w hSw; (try dsimp only at hSw); go_simp; first | done | with_reducible rfl); (try simp only [List.getElem_toArray, List.getElem_cons_zero, List.getElem_cons_succ, Act.put, List.setIfInBounds_toArray, List.set_cons_zero, List.set_cons_succ])))
                (refine wpAnyH_ready (rs := [9]) (by kernel_rfl) (by simp) ?_; refine AllReadyH.cons (i := 9) rfl (fun K hK => ?_) AllReadyH.nil)
                go_simp
                have HAQ := Lib.hid (fun j (e : (Value.slice sa ss.length sc).ownBlock = some j) => (show vx1.heap.size ≠ j from by have := (HOS.out.lt j e).2; omega))
                have hdn := hd.alloc hd.size (.cells (CC 0 0 (.slice none 0 0) 0) 48)
                have HBX := Lib.hid (heap_alloc_new vx1 (.cells (CC 0 0 (.slice none 0 0) 0) 48))
                have HOS := Lib.hid (r4_below HOS.out ((Below.refl vx1.heap.size vx1).alloc (Nat.le_refl _) (.cells (CC 0 0 (.slice none 0 0) 0) 48)))
                have HSB := Lib.hid hd.size
                (refine hK.out _ _ (HS.out _ hdn) (fun hHeld => ?_); clear hK K; (try simp only [List.getElem_toArray, List.getElem_cons_zero, List.getElem_cons_succ, Act.put, List.setIfInBounds_toArray, List.set_cons_zero, List.set_cons_succ]))
                generalize vx1.alloc (.cells (CC 0 0 (.slice none 0 0) 0) 48) = vx2 at hdn HBX HOS hHeld ⊢
                generalize vx1.heap.size = kb2 at HBX HSB HAQ ⊢
                clear hd
                have hd := hdn
                clear hdn
                have HAP := Lib.hid (fun j (e : (Value.slice sa ss.length sc).ownBlock = some j) => (show kb2 ≠ j from HAQ.out j e))
                have HRW := Lib.hid (show (vx2.setRow kb2 (CGc a b (.slice sa ss.length sc) 0 kk)).heap[kb2]? = some (.cells (CGc a b (.slice sa ss.length sc) 0 kk) 48) from setRow_heap _ _ _ _ _ _ HBX.out)
                have hdn := below_setRow hd HSB.out (CGc a b (.slice sa ss.length sc) 0 kk)
                have HOS := Lib.hid (own_row' HOS.out HAP.out (CGc a b (.slice sa ss.length sc) 0 kk))
                (refine wpAnyH_ready (rs := [10]) (by kernel_rfl) (by simp) ?_; refine AllReadyH.cons (i := 10) rfl (fun K hK => ?_) AllReadyH.nil)
                refine hstep_store rfl 48 _ _ rfl kb2 (CGc a b (.slice sa ss.length sc) 0 kk) rfl rfl 48 _ HBX.out info_cloud rfl (one5 _ _ _ _ _ _ _) ?_
                (refine hK.out _ _ (HS.out _ hdn) (fun hHeld => ?_); clear hK K; (try simp only [List.getElem_toArray, List.getElem_cons_zero, List.getElem_cons_succ, Act.put, List.setIfInBounds_toArray, List.set_cons_zero, List.set_cons_succ]))
                ((refine wpAnyH_take (i := 11) (v := ?_) rfl (by kernel_rfl) (by kernel_rfl) (by kernel_rfl) (fun _ _ _ h => h) (Or.inl ⟨by rfl, ?_⟩) (by assumption) ?_; rotate_left; (· intro w hSw; (try dsimp only at hSw); go_simp; first | done | with_reducible rfl); (try simp only [List.getElem_toArray, List.getElem_cons_zero, List.getElem_cons_succ, Act.put, List.setIfInBounds_toArray, List.set_cons_zero, List.set_cons_succ])))
                (refine wpAnyH_done (by kernel_rfl) ?_ _; refine NoPanic.normal ?_)
                clear hHeld
                go_wp2_with fail
                go_meet
                case rel => exact ⟨kb2, _, ss, kk, c, rfl, rfl, HCC, HSTR, HRW, HOS, Lib.hid (D12.out.trans (hdn.mono D12.out.size))⟩
              · skip
                go_simp
                have hdn := hd.alloc hd.size (.cells (CC 0 0 (.slice none 0 0) 0) 48)
                have HBX := Lib.hid (heap_alloc_new v0 (.cells (CC 0 0 (.slice none 0 0) 0) 48))
                have HSB := Lib.hid hd.size
                (refine hK.out _ _ (HS.out _ hdn) (fun hHeld => ?_); clear hK K; (try simp only [List.getElem_toArray, List.getElem_cons_zero, List.getElem_cons_succ, Act.put, List.setIfInBounds_toArray, List.set_cons_zero, List.set_cons_succ]))
                generalize v0.alloc (.cells (CC 0 0 (.slice none 0 0) 0) 48) = vx1 at hdn HBX hHeld ⊢
                generalize v0.heap.size = kb2 at HBX HSB ⊢
                clear hd
                have hd := hdn
                clear hdn
                have HKB := Lib.hid (Array.getElem?_eq_some_iff.1 HBX.out).1
                (refine wpAnyH_ready (rs := [5]) (by kernel_rfl) (by simp) ?_; refine AllReadyH.cons (i := 5) rfl (fun K hK => ?_) AllReadyH.nil)
                go_simp
                try rw [hwz]
                refine (iTwo_str a b ha ha' hb hb' c HCC.out.1 HCC.out.2 _).mono ?_
                clear hwz
                rintro e vx2 ⟨⟨v9, ss, kk, rfl, hsl, hso, hst, hkk⟩, hb9⟩
                have HSTR := Lib.hid (And.intro hsl (And.intro hst hkk))
                have HOS := Lib.hid (show QOwn 0 vx2 v9 ss from Go.Joins.ownsRow_le hso (Nat.zero_le _))
                have HBX := Lib.hid ((hb9.block kb2 (Array.getElem?_eq_some_iff.1 HBX.out).1).trans HBX.out)
                have HAP := Lib.hid (fun j e => (show kb2 ≠ j from by have h1 := (hso.lt j e).1; have h2 := HKB.out; omega))
                have hdn := hd.trans (hb9.mono hd.size)
                clear hsl hso hst hkk hb9 hd
                have hd := hdn
                clear hdn
                obtain ⟨sa, sc, rfl, _⟩ := q_form HOS.out
                go_wp2_with fail
                (refine hK.out _ _ (HS.out _ hd) (fun hHeld => ?_); clear hK K; (try simp only [List.getElem_toArray, List.getElem_cons_zero, List.getElem_cons_succ, Act.put, List.setIfInBounds_toArray, List.set_cons_zero, List.set_cons_succ]))
                ((refine wpAnyH_take (i := 6) (v := ?_) rfl (by kernel_rfl) (by kernel_rfl) (by kernel_rfl) (fun _ _ _ h => h) (Or.inl ⟨by rfl, ?_⟩) (by assumption) ?_; rotate_left; (· intro w hSw; (try dsimp only at hSw); go_simp; first | done | with_reducible rfl); (try simp only [List.getElem_toArray, List.getElem_cons_zero, List.getElem_cons_succ, Act.put, List.setIfInBounds_toArray, List.set_cons_zero, List.set_cons_succ])); (refine wpAnyH_take (i := 7) (v := ?_) rfl (by kernel_rfl) (by kernel_rfl) (by kernel_rfl) (fun _ _ _ h => h) (Or.inl ⟨by rfl, ?_⟩) (by assumption) ?_; rotate_left; (· intro w hSw; (try dsimp only at hSw); go_simp; first | done | with_reducible rfl); (try simp only [List.getElem_toArray, List.getElem_cons_zero, List.getElem_cons_succ, Act.put, List.setIfInBounds_toArray, List.set_cons_zero, List.set_cons_succ])); (refine wpAnyH_take (i := 8) (v := ?_) rfl (by kernel_rfl) (by kernel_rfl) (by kernel_rfl) (fun _ _ _ h => h) (Or.inl ⟨by rfl, ?_⟩) (by assumption) ?_; rotate_left; (· intro w hSw; (try dsimp only at hSw); go_simp; first | done | with_reducible rfl); (try simp only [List.getElem_toArray, List.getElem_cons_zero, List.getElem_cons_succ, Act.put, List.setIfInBounds_toArray, List.set_cons_zero, List.set_cons_succ])))
                have HRW := Lib.hid (show (vx2.setRow kb2 (CGc a b (.slice sa ss.length sc) 0 kk)).heap[kb2]? = some (.cells (CGc a b (.slice sa ss.length sc) 0 kk) 48) from setRow_heap _ _ _ _ _ _ HBX.out)
                have hdn := below_setRow hd HSB.out (CGc a b (.slice sa ss.length sc) 0 kk)
                have HOS := Lib.hid (own_row' HOS.out HAP.out (CGc a b (.slice sa ss.length sc) 0 kk))
                (refine wpAnyH_ready (rs := [10]) (by kernel_rfl) (by simp) ?_; refine AllReadyH.cons (i := 10) rfl (fun K hK => ?_) AllReadyH.nil)
                refine hstep_store rfl 48 _ _ rfl kb2 (CGc a b (.slice sa ss.length sc) 0 kk) rfl rfl 48 _ HBX.out info_cloud rfl (one5 _ _ _ _ _ _ _) ?_
                (refine hK.out _ _ (HS.out _ hdn) (fun hHeld => ?_); clear hK K; (try simp only [List.getElem_toArray, List.getElem_cons_zero, List.getElem_cons_succ, Act.put, List.setIfInBounds_toArray, List.set_cons_zero, List.set_cons_succ]))
                ((refine wpAnyH_take (i := 11) (v := ?_) rfl (by kernel_rfl) (by kernel_rfl) (by kernel_rfl) (fun _ _ _ h => h) (Or.inl ⟨by rfl, ?_⟩) (by assumption) ?_; rotate_left; (· intro w hSw; (try dsimp only at hSw); go_simp; first | done | with_reducible rfl); (try simp only [List.getElem_toArray, List.getElem_cons_zero, List.getElem_cons_succ, Act.put, List.setIfInBounds_toArray, List.set_cons_zero, List.set_cons_succ])))
                (refine wpAnyH_done (by kernel_rfl) ?_ _; refine NoPanic.normal ?_)
                clear hHeld
                go_wp2_with fail
                go_meet
                case rel => exact ⟨kb2, _, ss, kk, c, rfl, rfl, HCC, HSTR, HRW, HOS, Lib.hid (D12.out.trans (hdn.mono D12.out.size))⟩
            · skip
              go_simp
              have hdn := hd.alloc hd.size (.cells (CC 0 0 (.slice none 0 0) 0) 48)
              have HBX := Lib.hid (heap_alloc_new v0 (.cells (CC 0 0 (.slice none 0 0) 0) 48))
              have HSB := Lib.hid hd.size
              (refine hK.out _ _ (HS.out _ hdn) (fun hHeld => ?_); clear hK K; (try simp only [List.getElem_toArray, List.getElem_cons_zero, List.getElem_cons_succ, Act.put, List.setIfInBounds_toArray, List.set_cons_zero, List.set_cons_succ]))
              generalize v0.alloc (.cells (CC 0 0 (.slice none 0 0) 0) 48) = vx1 at hdn HBX hHeld ⊢
              generalize v0.heap.size = kb2 at HBX HSB ⊢
              clear hd
              have hd := hdn
              clear hdn
              have HKB := Lib.hid (Array.getElem?_eq_some_iff.1 HBX.out).1
              (refine wpAnyH_ready (rs := [3]) (by kernel_rfl) (by simp) ?_; refine AllReadyH.cons (i := 3) rfl (fun K hK => ?_) AllReadyH.nil)
              go_simp
              refine (bAt2_any _ _ _ z1 _ (HM.out.below (HB0.out.trans ((D12.out.trans (hd.mono D12.out.size)).mono HB0.out.size)))).mono ?_
              rintro e wz ⟨⟨z, rfl, hz0, hz1⟩, hwz0⟩
              obtain rfl := hwz0.symm
              clear hwz0
              obtain ⟨c, hcz⟩ : ∃ c : Nat, (c : Int) = 1 + z := ⟨(1 + z).toNat, by omega⟩
              have hwz : IntKind.i64.wrap (1 + z) = (c : Int) := by rw [← hcz, IntKind.wrap_i64]; omega
              have HCC := Lib.hid (show 1 ≤ c ∧ c ≤ 8 from by omega)
              clear hcz
              go_wp2_with fail
              (refine hK.out _ _ (HS.out _ hd) (fun hHeld => ?_); clear hK K; (try simp only [List.getElem_toArray, List.getElem_cons_zero, List.getElem_cons_succ, Act.put, List.setIfInBounds_toArray, List.set_cons_zero, List.set_cons_succ]))
              ((refine wpAnyH_take (i := 4) (v := ?_) rfl (by kernel_rfl) (by kernel_rfl) (by kernel_rfl) (fun _ _ _ h => h) (Or.inl ⟨by rfl, ?_⟩) (by assumption) ?_; rotate_left; (· intro w hSw; (try dsimp only at hSw); go_simp; first | done | with_reducible rfl); (try simp only [List.getElem_toArray, List.getElem_cons_zero, List.getElem_cons_succ, Act.put, List.setIfInBounds_toArray, List.set_cons_zero, List.set_cons_succ])))
              (refine wpAnyH_ready (rs := [5]) (by kernel_rfl) (by simp) ?_; refine AllReadyH.cons (i := 5) rfl (fun K hK => ?_) AllReadyH.nil)
              go_simp
              try rw [hwz]
              refine (iTwo_str a b ha ha' hb hb' c HCC.out.1 HCC.out.2 _).mono ?_
              clear hwz
              rintro e vx2 ⟨⟨v9, ss, kk, rfl, hsl, hso, hst, hkk⟩, hb9⟩
              have HSTR := Lib.hid (And.intro hsl (And.intro hst hkk))
              have HOS := Lib.hid (show QOwn 0 vx2 v9 ss from Go.Joins.ownsRow_le hso (Nat.zero_le _))
              have HBX := Lib.hid ((hb9.block kb2 (Array.getElem?_eq_some_iff.1 HBX.out).1).trans HBX.out)
              have HAP := Lib.hid (fun j e => (show kb2 ≠ j from by have h1 := (hso.lt j e).1; have h2 := HKB.out; omega))
              have hdn := hd.trans (hb9.mono hd.size)
              clear hsl hso hst hkk hb9 hd
              have hd := hdn
              clear hdn
              obtain ⟨sa, sc, rfl, _⟩ := q_form HOS.out
              go_wp2_with fail
              (refine hK.out _ _ (HS.out _ hd) (fun hHeld => ?_); clear hK K; (try simp only [List.getElem_toArray, List.getElem_cons_zero, List.getElem_cons_succ, Act.put, List.setIfInBounds_toArray, List.set_cons_zero, List.set_cons_succ]))
              ((refine wpAnyH_take (i := 6) (v := ?_) rfl (by kernel_rfl) (by kernel_rfl) (by kernel_rfl) (fun _ _ _ h => h) (Or.inl ⟨by rfl, ?_⟩) (by assumption) ?_; rotate_left; (· intro w hSw; (try dsimp only at hSw); go_simp; first | done | with_reducible rfl); (try simp only [List.getElem_toArray, List.getElem_cons_zero, List.getElem_cons_succ, Act.put, List.setIfInBounds_toArray, List.set_cons_zero, List.set_cons_succ])); (refine wpAnyH_take (i := 7) (v := ?_) rfl (by kernel_rfl) (by kernel_rfl) (by kernel_rfl) (fun _ _ _ h => h) (Or.inl ⟨by rfl, ?_⟩) (by assumption) ?_; rotate_left; (· intro w hSw; (try dsimp only at hSw); go_simp; first | done | with_reducible rfl); (try simp only [List.getElem_toArray, List.getElem_cons_zero, List.getElem_cons_succ, Act.put, List.setIfInBounds_toArray, List.set_cons_zero, List.set_cons_succ])); (refine wpAnyH_take (i := 8) (v := ?_) rfl (by kernel_rfl) (by kernel_rfl) (by kernel_rfl) (fun _ _ _ h => h) (Or.inl ⟨by rfl, ?_⟩) (by assumption) ?_; rotate_left; (· intro w hSw; (try dsimp only at hSw); go_simp; first | done | with_reducible rfl); (try simp only [List.getElem_toArray, List.getElem_cons_zero, List.getElem_cons_succ, Act.put, List.setIfInBounds_toArray, List.set_cons_zero, List.set_cons_succ])))
              have HRW := Lib.hid (show (vx2.setRow kb2 (CGc a b (.slice sa ss.length sc) 0 kk)).heap[kb2]? = some (.cells (CGc a b (.slice sa ss.length sc) 0 kk) 48) from setRow_heap _ _ _ _ _ _ HBX.out)
              have hdn := below_setRow hd HSB.out (CGc a b (.slice sa ss.length sc) 0 kk)
              have HOS := Lib.hid (own_row' HOS.out HAP.out (CGc a b (.slice sa ss.length sc) 0 kk))
              (refine wpAnyH_ready (rs := [10]) (by kernel_rfl) (by simp) ?_; refine AllReadyH.cons (i := 10) rfl (fun K hK => ?_) AllReadyH.nil)
              refine hstep_store rfl 48 _ _ rfl kb2 (CGc a b (.slice sa ss.length sc) 0 kk) rfl rfl 48 _ HBX.out info_cloud rfl (one5 _ _ _ _ _ _ _) ?_
              (refine hK.out _ _ (HS.out _ hdn) (fun hHeld => ?_); clear hK K; (try simp only [List.getElem_toArray, List.getElem_cons_zero, List.getElem_cons_succ, Act.put, List.setIfInBounds_toArray, List.set_cons_zero, List.set_cons_succ]))
              ((refine wpAnyH_take (i := 11) (v := ?_) rfl (by kernel_rfl) (by kernel_rfl) (by kernel_rfl) (fun _ _ _ h => h) (Or.inl ⟨by rfl, ?_⟩) (by assumption) ?_; rotate_left; (· intro w hSw; (try dsimp only at hSw); go_simp; first | done | with_reducible rfl); (try simp only [List.getElem_toArray, List.getElem_cons_zero, List.getElem_cons_succ, Act.put, List.setIfInBounds_toArray, List.set_cons_zero, List.set_cons_succ])))
              (refine wpAnyH_done (by kernel_rfl) ?_ _; refine NoPanic.normal ?_)
              clear hHeld
              go_wp2_with fail
              go_meet
              case rel => exact ⟨kb2, _, ss, kk, c, rfl, rfl, HCC, HSTR, HRW, HOS, Lib.hid (D12.out.trans (hdn.mono D12.out.size))⟩
          case rest =>
            obtain ⟨kb2, v9, ss, kk, c, rfl, rfl, HCC, HSTR, HKX, HOS, D13⟩ := hcut
            obtain ⟨sa, sc, rfl, _⟩ := q_form HOS.out
            obtain ⟨e0, e1, e2, e3, e4⟩ := five_cells HKX.out
            go_wp2_with fail
            clear e0 e1 e2 e3 e4
            refine (iCloudMom_str a b ha ha' hb (by omega) 0 _ ss kk c _ HOS.out HSTR.out.2.1 HSTR.out.2.2 HCC.out.1 HCC.out.2 HSTR.out.1).mono ?_
            rintro e wm ⟨rfl, hbm⟩
            have HKX := Lib.hid ((hbm.block kb2 (Array.getElem?_eq_some_iff.1 HKX.out).1).trans HKX.out)
            have HOS := Lib.hid (r4_below HOS.out hbm)
            have D14 := Lib.hid (D13.out.trans (hbm.mono D13.out.size))
            clear hbm D13
            obtain ⟨e0, e1, e2, e3, e4⟩ := five_cells HKX.out
            go_wp2_with fail
            clear e0 e1 e2 e3 e4
            refine (iTempOf_str a b ha ha' hb (by omega) 0 _ ss kk c _ HOS.out HSTR.out.2.1 HSTR.out.2.2 HCC.out.1 HCC.out.2 HSTR.out.1).mono ?_
            rintro e wt ⟨rfl, hbm⟩
            have HKX := Lib.hid ((hbm.block kb2 (Array.getElem?_eq_some_iff.1 HKX.out).1).trans HKX.out)
            have HOS := Lib.hid (r4_below HOS.out hbm)
            have D15 := Lib.hid (D14.out.trans (hbm.mono D14.out.size))
            clear hbm D14
            obtain ⟨e0, e1, e2, e3, e4⟩ := five_cells HKX.out
            go_wp2_with fail
            clear e0 e1 e2 e3 e4
            refine (iKinOf_str a b ha ha' hb (by omega) 0 _ ss kk c _ HOS.out HSTR.out.2.1 HSTR.out.2.2 HCC.out.1 HCC.out.2 HSTR.out.1).mono ?_
            rintro e wk ⟨⟨r, rfl, hr⟩, hbm⟩
            have HKX := Lib.hid ((hbm.block kb2 (Array.getElem?_eq_some_iff.1 HKX.out).1).trans HKX.out)
            have HOS := Lib.hid (r4_below HOS.out hbm)
            have D16 := Lib.hid (D15.out.trans (hbm.mono D15.out.size))
            have HR := Lib.hid hr
            clear hbm D15 hr
            obtain ⟨e0, e1, e2, e3, e4⟩ := five_cells HKX.out
            have hn : (ss.length : Int) = 2 * (c : Int) := by have := HSTR.out.1; omega
            have h8 := HCC.out
            have HE := Lib.hid (dy_e8 (ss.length : Int) (by omega) (by omega))
            obtain rfl : r = E8 (ss.length : Int) := dy_one HR.out HE.out
            have ie := HE.out.is
            have iw := is_int32 (ss.length : Int) (by omega) (by omega)
            have hq1 : fcmp .eql .f32 1048576000 1048576000 = true := by decide +kernel
            have hq0 : fcmp .eql .f32 0 0 = true := by decide +kernel
            have hq2 : fcmp .eql .f32 (E8 (ss.length : Int)) (fop .mul .f32 1040187392 (floatOfInt .f32 (ss.length : Int))) = true := by
              have h2 := (tq c h8.1 h8.2).2.1
              rw [← HSTR.out.1] at h2
              rw [h2, HE.out.dv.eql HE.out.dv]
              simp
            clear hn h8 HE HR
            go_wp2_with (first | (apply wpList_ceq; rfl; rfl; rfl; (with_reducible exact hq0); (with_reducible exact hq0)) | (apply wpList_fcmp; rfl; rfl; rfl; rfl; (first | with_reducible assumption | exact Is.const rfl); (first | with_reducible assumption | exact Is.const rfl); (first | with_reducible assumption | exact rfl)) | (apply wpList_farith; rfl; rfl; rfl; rfl; (first | with_reducible assumption | exact Is.const rfl); (first | with_reducible assumption | exact Is.const rfl); intro r n hr))
            go_ret
            exact ⟨rfl, HB0.out.trans (below_drewN (D16.out.mono HB0.out.size) _)⟩
/-! ### from the walk to the statement -/
theorem own : ownKnob Try.prog.godebug = none := by kernel_rfl
theorem laidOut : laidOutB Try.prog = true := by kernel_rfl
set_option maxRecDepth 100000 in
theorem lifted (os : Os) (started : os.Started) (H : Type) (enc : TypeId × Value → H) :
    ReturnsInHanded {} Try.checked os 4 .any (Rows.fnMovedSpec.pre6 enc Try.prog Try.f4 Rows.fnMovedRow.domain false) (Rows.fnMovedSpec.post enc Try.prog Try.f4 false true false false) := by
  refine returnsInHanded_of_change (C := Try.checked) own started (by kernel_rfl) Try.func4
    (ChangeSpec.witness6 (enc := enc) (C := Try.checked) false ⟨#[], #[.slice none 0 0, .slice none 0 0], []⟩ 8 (by kernel_rfl) (by kernel_rfl) (by kernel_rfl) (by kernel_rfl)) ?_
  intro W base args ds gs before hval0 hW hcnd _
  have hval : ∀ (j : Nat) t v, Try.f4.params[j]? = some t → args[j]? = some v → Value.okWide Try.prog W .any base t v := hval0
  have hW' := hW
  obtain ⟨p, q, hA0, hV, rfl, hfz, hnd⟩ := hW
  have hA : DataW.TrodAll enc Try.prog W 0 (fun _ => true) true Try.f4.params.toList args.toList ds p := hA0
  rw [Try.params4] at hA hval
  obtain ⟨v0, vs0, d0, ds0, p0, q0, hargs, rfl, rfl, h0, r0⟩ := trodAll_cons hA
  obtain ⟨v1, vs1, d1, ds1, p1, q1, rfl, rfl, rfl, h1, r1⟩ := trodAll_cons r0
  obtain ⟨rfl, rfl, rfl⟩ := trodAll_nil r1
  obtain rfl : args = #[v0, v1] := by cases args; simp_all
  obtain ⟨rfl, rfl⟩ := trodVars_none hV
  obtain ⟨a0, len0, cap0, rfl⟩ := okWide_slice Try.underlying22 (hval 0 22 v0 rfl rfl)
  have k0 := h0
  have lt0 : ∀ x ∈ p0, x.block < W.heap.size := by obtain ⟨m, hm⟩ := k0; exact DataW.trod_lt m _ _ _ hm
  obtain ⟨z0, w0⟩ : ∃ zs, Nl.NS .u8 W (.slice a0 len0 cap0) zs := Nl.open_nums Try.underlying22 Try.underlying5 (by kernel_rfl) h0
  obtain ⟨a1, len1, cap1, rfl⟩ := okWide_slice Try.underlying22 (hval 1 22 v1 rfl rfl)
  have k1 := h1
  have lt1 : ∀ x ∈ p1, x.block < W.heap.size := by obtain ⟨m, hm⟩ := k1; exact DataW.trod_lt m _ _ _ hm
  obtain ⟨z1, w1⟩ : ∃ zs, Nl.NS .u8 W (.slice a1 len1 cap1) zs := Nl.open_nums Try.underlying22 Try.underlying5 (by kernel_rfl) h1
  clear hA0 hval0
  refine (walk a0 len0 cap0 z0 a1 len1 cap1 z1 W w0 w1).mono fun e W' ⟨he, bel⟩ => ?_
  subst he
  exact ⟨_, rfl, _, _, _, [], _, [], hW', trodAll_mk1 (shut_bool Try.underlying4 _), (trodAll_cons_mk (Below.trod laidOut (by kernel_rfl) (of_decide_eq_true (by kernel_rfl)) k0 bel lt0) (trodAll_cons_mk (Below.trod laidOut (by kernel_rfl) (of_decide_eq_true (by kernel_rfl)) k1 bel lt1) trodAll_mk0)), rfl, bel.frame _, fun h => by cases h⟩

theorem over : Rows.fnMovedRow.holds Try.pinned (OpenSpec.ofChange Rows.fnMovedSpec) :=
  OpenClaim.holds_of_wide 4 Try.f4 rfl rfl rfl rfl rfl rfl rfl ⟨rfl, rfl, rfl, rfl, rfl⟩ rfl rfl rfl rfl rfl (by kernel_rfl) Try.func4 (by kernel_rfl)
    (of_decide_eq_true (by kernel_rfl)) (by unfold Func.isWrapper; first | (rw [if_pos (by decide +kernel)]; kernel_rfl) | (rw [if_neg (by decide +kernel)]; exact ⟨rfl, rfl⟩))
    (fun os started H enc _ => lifted os started H enc)

/-- The statement. -/
theorem proved : Rows.FnMovedSaid := over
#print axioms proved
end Go.Proofs.Ytnknhfhllifnhaa.fnMoved
