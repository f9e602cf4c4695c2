/-
  Rays around, of the program and of the model.
-/
import Derived.Test.YtdoohjmjbkkmkaaRyC
import Derived.Test.YtdoohjmjbkkmkaaAsc
import Derived.Test.YtdoohjmjbkkmkaaEv
import Derived.Test.YtdoohjmjbkkmkaaTurns
namespace Go.Proofs.Ytdoohjmjbkkmkaa
open Go.Fl Go.RowKit
open Go.Joins (ownsRow_le)
set_option linter.unusedSimpArgs false
set_option linter.unusedVariables false

theorem wf9 {n : Int} (h : -9223372036854775808 ≤ n ∧ n ≤ 9223372036854775807) : (Lit.int .i64 n).wf = true := by simp [Lit.wf, IntKind.min, IntKind.max, IntKind.signed, IntKind.bits]; omega
theorem asc9 (x y z : Int) (g : Nat) (t : TypeId) (w : World) (h : w.heap[g]? = some (.cells #[.int .i64 x, .int .i64 y, .int .i64 z] t)) (hx : -9223372036854775808 ≤ x ∧ x ≤ 9223372036854775807) (hy : -9223372036854775808 ≤ y ∧ y ≤ 9223372036854775807) (hz : -9223372036854775808 ≤ z ∧ z ≤ 9223372036854775807) :
    Calls Try.prog 83 #[.slice (some ⟨g, 0, none⟩) 3 3] w fun e w' => e = .returned (.bool (decide (x ≤ y ∧ y ≤ z))) ∧ ∃ n, w' = w.drewN n := by
  have := ascend_any _ [x, y, z] w (ns_of (xs := [x, y, z]) h (by intro u hu; rcases List.mem_cons.1 hu with rfl | hu; exact wf9 hx; rcases List.mem_cons.1 hu with rfl | hu; exact wf9 hy; rcases List.mem_cons.1 hu with rfl | hu; exact wf9 hz; cases hu) (by simp)) (by simp) (by simp)
  rw [ascB3] at this
  exact this

def fillQ (n : Int) (k : Nat) : Nat := fop .quo .f32 (floatOfInt .f32 (k : Int)) (floatOfInt .f32 n)
/-- The k-th ray of n. -/
def fillK (n : Int) (S T : Nat) (k : Nat) : Ry := ⟨fop .mul .f32 S (sineT (fop .add .f32 (fillQ n k) 1048576000)), fop .mul .f32 T (sineT (fillQ n k)), fillQ n k, 0⟩
def okFill (n : Int) (S T : Nat) : Bool := decide (1 ≤ n ∧ n ≤ 256) && (fin .f32 S && fin .f32 T)
def lenFill (n : Int) (S T : Nat) : Nat := if okFill n S T then n.toNat else 0
theorem lenFill_le (n : Int) (S T : Nat) : lenFill n S T ≤ 256 := by
  unfold lenFill
  split
  · rename_i h
    unfold okFill at h
    rw [Bool.and_eq_true] at h
    have := of_decide_eq_true h.1
    omega
  · omega
theorem is_quart : Is .f32 1048576000 1048576000 := Is.const (by decide +kernel)
theorem is_z9 : Is .f32 0 0 := Is.const rfl
/-- Rays under way: the first ones, zeros behind them. -/
def rTo (ts : List Ry) (n : Nat) : List Ry := ts ++ List.replicate (n - ts.length) ZRy
theorem rTo_zero (n : Nat) : rTo [] n = List.replicate n ZRy := by simp [rTo]
theorem rTo_len {ts : List Ry} {n : Nat} (h : ts.length ≤ n) : (rTo ts n).length = n := by simp [rTo]; omega
theorem rTo_all {ts : List Ry} {n : Nat} (h : ts.length = n) : rTo ts n = ts := by simp [rTo, h]
theorem rTo_set {ts : List Ry} {n : Nat} (h : ts.length < n) (t : Ry) : (rTo ts n).set ts.length t = rTo (ts ++ [t]) n := by
  unfold rTo
  rw [List.set_append_right _ _ (Nat.le_refl _), Nat.sub_self, show n - ts.length = (n - (ts ++ [t]).length) + 1 by simp; omega, List.replicate_succ, List.set_cons_zero]
  simp
theorem ryone (x y p e : Nat) : (#[Value.complex .f32 x y, .float .f32 p, .float .f32 e] : Array Value).all (·.oneCell') = true := by first | rfl | (simp [Value.oneCell']; done)

theorem ry_put {B : Nat} {w : World} {g n cap : Nat} {xs ys : List Ry} (h : RwOwn B w (.slice (some ⟨g, 0, none⟩) n cap) xs) {k : Nat} (hk : k < xs.length) {t : Ry} (e : xs.set k t = ys) :
    RwOwn B (((w.setCell ⟨g, k * 3, none⟩ (.complex .f32 t.x t.y)).setCell ⟨g, k * 3 + 1, none⟩ (.float .f32 t.p)).setCell ⟨g, k * 3 + 2, none⟩ (.float .f32 t.e)) (.slice (some ⟨g, 0, none⟩) n cap) ys := by
  subst e
  exact (ry_set h hk t).1
set_option maxHeartbeats 2000000 in
set_option maxRecDepth 100000 in
theorem iFillBeam_any (n : Int) (s S t T : Nat) (w : World) (hw : -9223372036854775808 ≤ n ∧ n ≤ 9223372036854775807) (is : Is .f32 s S) (it : Is .f32 t T) :
    Calls Try.prog 42 #[.int .i64 n, .float .f32 s, .float .f32 t] w fun e w' => (∃ r, e = .returned (.tuple #[r, .bool (okFill n S T)]) ∧ RRes w.heap.size w' r (lenFill n S T) (fillK n S T)) ∧ Below w.heap.size w w' := by
  obtain ⟨ok, hok⟩ : ∃ ok, okFill n S T = ok := ⟨_, rfl⟩
  obtain ⟨N, hN⟩ : ∃ N, lenFill n S T = N := ⟨_, rfl⟩
  rw [hok, hN]
  have HOK := Lib.hid hok; have HN := Lib.hid (show N = if ok then n.toNat else 0 by rw [← hN, ← hok]; rfl)
  have IS := Lib.hid is; have IT := Lib.hid it; have HW := Lib.hid hw
  clear hok hN is it hw
  have hn1 := heap_alloc_new w (.cells #[.int .i64 1, .int .i64 n, .int .i64 256] 2)
  have HB1 := Lib.hid ((Below.refl w.heap.size w).alloc (Nat.le_refl _) (.cells #[.int .i64 1, .int .i64 n, .int .i64 256] 2))
  go_enter Try.func42, Try.ntmps42
  go_wp2_with fail
  refine (asc9 1 n 256 _ 2 _ hn1 (by omega) HW.out (by omega)).mono ?_
  cases h1 : decide (1 ≤ n ∧ n ≤ 256) with
  | false =>
    rintro e w' ⟨rfl, m, rfl⟩
    obtain rfl : ok = false := HOK.out.symm.trans (by unfold okFill; rw [h1]; rfl)
    obtain rfl : N = 0 := HN.out
    clear h1 hn1
    go_wp2_with fail
    go_ret2
    exact ⟨⟨_, rfl, rres_none _ _ _⟩, below_drewN HB1.out _⟩
  | true =>
    rintro e w' ⟨rfl, m, rfl⟩
    have hN := of_decide_eq_true h1
    have HB2 := Lib.hid ((below_drewN HB1.out m).alloc (show w.heap.size ≤ _ from HB1.out.size) (.cells #[.float .f32 s, .float .f32 t] 23))
    have HX2 := Lib.hid (show (((w.alloc (.cells #[.int .i64 1, .int .i64 n, .int .i64 256] 2)).drewN m).alloc (.cells #[.float .f32 s, .float .f32 t] 23)).heap[w.heap.size + 1]? = some (.cells #[.float .f32 s, .float .f32 t] 23) from by
      have := heap_alloc_new ((w.alloc (.cells #[.int .i64 1, .int .i64 n, .int .i64 256] 2)).drewN m) (.cells #[.float .f32 s, .float .f32 t] 23)
      rwa [show ((w.alloc (.cells #[.int .i64 1, .int .i64 n, .int .i64 256] 2)).drewN m).heap.size = w.heap.size + 1 by simp] at this)
    have HOK2 := Lib.hid (show ok = (fin .f32 S && fin .f32 T) from HOK.out.symm.trans (by unfold okFill; rw [h1]; rfl))
    clear h1 hn1
    go_wp2_with fail
    generalize ((w.alloc (.cells #[.int .i64 1, .int .i64 n, .int .i64 256] 2)).drewN m).alloc (.cells #[.float .f32 s, .float .f32 t] 23) = w2 at HB2 HX2 ⊢
    refine (areFin9 s S t T (w.heap.size + 1) w2 (Array.getElem?_eq_some_iff.1 HX2.out).1 (by rw [Joins.cell_of_block HX2.out]; rfl) (by rw [Joins.cell_of_block HX2.out]; rfl) IS.out IT.out).mono ?_
    rw [← HOK2.out]
    rintro e w' ⟨rfl, m2, rfl⟩
    cases ok with
    | false =>
      obtain rfl : N = 0 := HN.out
      go_wp2_with fail
      go_ret2
      exact ⟨⟨_, rfl, rres_none _ _ _⟩, below_drewN HB2.out _⟩
    | true =>
      obtain ⟨c, rfl⟩ := Int.eq_ofNat_of_zero_le (show 0 ≤ n by omega)
      obtain rfl : c = N := (HN.out.trans (Int.toNat_natCast c)).symm
      have hc : c ≤ 256 := by omega
      obtain ⟨i0, hi, hz0, hz1, hz2⟩ := info_parts Ryinfo
      have hb4 : i0.bytes * c ≤ 281474976710656 := by rw [hz2]; omega
      have hml : c ≤ maxLen := by unfold maxLen; omega
      have HI := Lib.hid hi; have HZ0 := Lib.hid hz0; have HZ1 := Lib.hid hz1
      have HBM := Lib.hid (below_drewN HB2.out m2)
      have iK := word32_is (c : Int)
      have IQ := is_quart
      have is' := IS.out; have it' := IT.out
      clear hi hz0 hz1 hz2
      go_wp2_with (at_make; refine wpList_make_full _ rfl _ _ 46 rfl w.heap.size 61 i0 (.agg #[.complex .f32 0 0, .float .f32 0, .float .f32 0]) 3 Try.underlying46 HI.out HZ0.out HZ1.out _ _ _ _ c rfl rfl rfl rfl hb4 hml HBM.out.size ?_; intro w4 hown hgrow)
      rw [cellsR_zero] at hown
      have HO0 := Lib.hid (show RwOwn w.heap.size w4 (.slice (some ⟨w2.heap.size, 0, none⟩) c c) (rTo [] c) by unfold RwOwn; rw [rTo_zero, List.length_replicate]; exact hown)
      have HB4 := Lib.hid (HBM.out.grown hgrow HBM.out.size (fun k h => by cases h))
      have HG := Lib.hid (show w.heap.size ≤ w2.heap.size from HB2.out.size)
      clear hown hgrow hb4 hml HI HZ0 HZ1
      generalize w2.heap.size = g at HO0 HG ⊢
      go_loopw [28] (fun i wr => ∃ k : Nat, k ≤ c ∧ i = .int .i64 (k : Int) ∧ Hid (Below w.heap.size w wr) ∧ ∃ ts : List Ry, ts.length = k ∧ Hid (EqR ts (fillK (c : Int) S T)) ∧ Hid (RwOwn w.heap.size wr (.slice (some ⟨g, 0, none⟩) c c) (rTo ts c))) (fun i _ => c - (intOf i).toNat)
      case atStart => exact ⟨0, Nat.zero_le _, rfl, HB4, [], rfl, Lib.hid (EqR.nil _), HO0⟩
      case round =>
        clear HB4 HO0
        obtain ⟨k, hk, rfl, HB, ts, htl, HE, HO⟩ := hrel
        by_cases hlt : k < c
        · have iN := word32_is (k : Int)
          have HTL := Lib.hid htl
          have HL := Lib.hid (show k < (rTo ts c).length by rw [rTo_len (by omega)]; exact hlt)
          obtain ⟨⟨d0, d1, d2⟩, ⟨f0, f1, f2⟩⟩ := ry_cells HO.out HL.out
          have HSE := Lib.hid (fun u : Ry => show (rTo ts c).set k u = rTo (ts ++ [u]) c from by rw [← HTL.out]; exact rTo_set (by omega) u)
          have HPUT := Lib.hid (show ∀ m x y p e, RwOwn w.heap.size ((((wr.drewN m).setCell ⟨g, k * 3, none⟩ (.complex .f32 x y)).setCell ⟨g, k * 3 + 1, none⟩ (.float .f32 p)).setCell ⟨g, k * 3 + 2, none⟩ (.float .f32 e)) (.slice (some ⟨g, 0, none⟩) c c) (rTo (ts ++ [⟨x, y, p, e⟩]) c) from fun m x y p e =>
            ry_put (t := ⟨x, y, p, e⟩) (show RwOwn w.heap.size (wr.drewN m) (.slice (some ⟨g, 0, none⟩) c c) (rTo ts c) from HO.out) HL.out (HSE.out ⟨x, y, p, e⟩))
          have HBEL := Lib.hid (show ∀ m x y p e, Below w.heap.size w ((((wr.drewN m).setCell ⟨g, k * 3, none⟩ (.complex .f32 x y)).setCell ⟨g, k * 3 + 1, none⟩ (.float .f32 p)).setCell ⟨g, k * 3 + 2, none⟩ (.float .f32 e)) from fun m x y p e =>
            (((below_drewN HB.out m).setCell (p := ⟨g, k * 3, none⟩) HG.out _).setCell (p := ⟨g, k * 3 + 1, none⟩) HG.out _).setCell (p := ⟨g, k * 3 + 2, none⟩) HG.out _)
          have HEQ := Lib.hid (show ∀ x y p e, Ry.is ⟨x, y, p, e⟩ (fillK (c : Int) S T k) → EqR (ts ++ [⟨x, y, p, e⟩]) (fillK (c : Int) S T) from fun x y p e he => HE.out.snoc (by rw [HTL.out]; exact he))
          clear htl
          go_wp2_with (first | (apply wpList_farith; rfl; rfl; rfl; rfl; (first | with_reducible assumption | exact Is.const rfl); (first | with_reducible assumption | exact Is.const rfl); intro r n hr) | (go_at_call 85; refine (iSineTurns_any _ _ (by assumption) _).mono ?_; rintro e w' ⟨⟨r, rfl, hr⟩, m, rfl⟩))
          go_roundw
          case rel =>
            exact ⟨k + 1, by omega, by go_num, Lib.hid (HBEL.out _ _ _ _ _), ts ++ [⟨_, _, _, _⟩], by rw [List.length_append, HTL.out]; rfl, Lib.hid (HEQ.out _ _ _ _ ⟨by assumption, by assumption, by assumption, is_z9⟩), Lib.hid (HPUT.out _ _ _ _ _)⟩
          case measure => simp [intOf]; omega
        · obtain rfl : k = c := by omega
          have HR := Lib.hid (show RwOwn w.heap.size wr (.slice (some ⟨g, 0, none⟩) k k) ts from by have h := HO.out; rwa [rTo_all htl] at h)
          have HTL := Lib.hid htl
          clear hlt htl
          go_wp2_with fail
          go_ret2
          exact ⟨⟨_, rfl, ts, HTL.out, HE.out, HR.out⟩, HB.out⟩
def HaltR (p : Prop) : Prop := p
theorem haltR {p : Prop} (h : HaltR p) : p := h
theorem wpList_appR {ops : Array Oper} {rest : List Oper} {o : Oper} {a : Act} {w : World} {Q : Exit → Act → World → Prop} (hgd : o.guard = none) (s x : Operand) (ho : o.op = .call { callee := .builtin .append, args := #[s, x], argTypes := #[46, 46] })
    (B : Nat) (v : Value) (n : Nat) (xs : List Ry) (hs : a.eval s = v) (hown : RwOwn B w v xs) (hl : xs.length = n) (g c : Nat) (hx : a.eval x = .slice (some ⟨g, 0, none⟩) 1 c) (x0 y0 p0 e0 : Nat) (hb : w.heap[g]? = some (.cells #[.complex .f32 x0 y0, .float .f32 p0, .float .f32 e0] 61))
    (hn : n ≤ 1000) (hB : B ≤ w.heap.size)
    (h : ∀ g' cap' w', RwOwn B w' (.slice (some ⟨g', 0, none⟩) (n + 1) cap') (xs ++ [⟨x0, y0, p0, e0⟩]) → w.grownBy w' v.ownBlock → wpList Try.prog ops Q rest (a.put o.dst (.slice (some ⟨g', 0, none⟩) (n + 1) cap')) w') : wpList Try.prog ops Q (o :: rest) a w := by
  obtain ⟨ti, hi, hz0, hz1, hz2⟩ := info_parts Ryinfo
  subst hl
  refine wpList_append_own w hgd s x 46 ho B 61 ti (.agg #[.complex .f32 0 0, .float .f32 0, .float .f32 0]) 3 16 Try.underlying46 hi hz0 hz1 hz2 rfl (by decide) v xs.length (cellsR xs) hs hown ⟨g, 0, none⟩ 1 c [.complex .f32 x0 y0, .float .f32 p0, .float .f32 e0] hx rfl (World.news_of_block (cs := #[.complex .f32 x0 y0, .float .f32 p0, .float .f32 e0]) (t := 61) (fr := (0, 0)) hb) (by intro u hu; simp at hu; rcases hu with rfl | rfl | rfl <;> rfl) (by unfold maxLen; omega) (by omega) hB ?_
  intro v' w' hown' hgrow _
  obtain ⟨g2, cap2, rfl⟩ := Joins.ownsRow_form hown' (by omega)
  refine h g2 cap2 w' ?_ hgrow
  unfold RwOwn
  rw [cellsR_app, List.length_append, List.length_singleton]
  exact hown'
set_option maxHeartbeats 2000000 in
set_option maxRecDepth 100000 in
theorem sFillBeam_any (n : Int) (s S t T : Nat) (w : World) (hw : -9223372036854775808 ≤ n ∧ n ≤ 9223372036854775807) (is : Is .f32 s S) (it : Is .f32 t T) :
    Calls Try.prog 41 #[.int .i64 n, .float .f32 s, .float .f32 t] w fun e w' => (∃ r, e = .returned (.tuple #[r, .bool (okFill n S T)]) ∧ RRes w.heap.size w' r (lenFill n S T) (fillK n S T)) ∧ Below w.heap.size w w' := by
  obtain ⟨ok, hok⟩ : ∃ ok, okFill n S T = ok := ⟨_, rfl⟩
  obtain ⟨N, hN⟩ : ∃ N, lenFill n S T = N := ⟨_, rfl⟩
  rw [hok, hN]
  have HOK := Lib.hid hok; have HN := Lib.hid (show N = if ok then n.toNat else 0 by rw [← hN, ← hok]; rfl)
  have IS := Lib.hid is; have IT := Lib.hid it; have HW := Lib.hid hw
  clear hok hN is it hw
  go_enter Try.func41, Try.ntmps41
  go_wp2_with fail
  refine (sIn9 n 1 256 _).mono ?_
  cases h1 : decide (1 ≤ n ∧ n ≤ 256) with
  | false =>
    rintro e w' ⟨rfl, rfl⟩
    obtain rfl : ok = false := HOK.out.symm.trans (by unfold okFill; rw [h1]; rfl)
    obtain rfl : N = 0 := HN.out
    clear h1
    go_wp2_with fail
    go_ret2
    exact ⟨⟨_, rfl, rres_none _ _ _⟩, Below.refl _ _⟩
  | true =>
    rintro e w' ⟨rfl, rfl⟩
    have hN := of_decide_eq_true h1
    have HOK2 := Lib.hid (show ok = (fin .f32 S && fin .f32 T) from HOK.out.symm.trans (by unfold okFill; rw [h1]; rfl))
    clear h1
    go_wp2_with fail
    refine (sFin9 s S IS.out _).mono ?_
    cases h2 : fin .f32 S with
    | false =>
      rintro e w' ⟨rfl, m, rfl⟩
      obtain rfl : ok = false := HOK2.out.trans (by rw [h2]; rfl)
      obtain rfl : N = 0 := HN.out
      clear h2
      go_wp2_with fail
      go_ret2
      exact ⟨⟨_, rfl, rres_none _ _ _⟩, below_drewN (Below.refl _ _) _⟩
    | true =>
      rintro e w' ⟨rfl, m, rfl⟩
      have HOK3 := Lib.hid (show ok = fin .f32 T from HOK2.out.trans (by rw [h2]; rfl))
      clear h2
      go_wp2_with fail
      refine (sFin9 t T IT.out _).mono ?_
      rw [← HOK3.out]
      rintro e w' ⟨rfl, m2, rfl⟩
      cases ok with
      | false =>
        obtain rfl : N = 0 := HN.out
        go_wp2_with fail
        go_ret2
        exact ⟨⟨_, rfl, rres_none _ _ _⟩, below_drewN (Below.refl _ _) _⟩
      | true =>
        obtain ⟨c, rfl⟩ := Int.eq_ofNat_of_zero_le (show 0 ≤ n by omega)
        obtain rfl : c = N := (HN.out.trans (Int.toNat_natCast c)).symm
        have hc : c ≤ 256 := by omega
        have iK := word32_is (c : Int)
        have IQ := is_quart
        have is' := IS.out; have it' := IT.out
        have HB4 := Lib.hid (below_drewN (below_drewN (Below.refl w.heap.size w) m) m2)
        have HB5 := Lib.hid ((below_drewN (Below.refl w.heap.size w) (m + m2)).alloc (Nat.le_refl _) (.cells #[] 61))
        have HO5 := Lib.hid (show RwOwn w.heap.size ((w.drewN (m + m2)).alloc (.cells #[] 61)) (.slice (some ⟨w.heap.size, 0, none⟩) 0 0) [] from World.ownsRow_made (w.drewN (m + m2)) #[] 0 (Nat.le_refl _) (Nat.zero_le _) rfl)
        go_wp2_with fail
        go_loopw [8, 9] (fun v i wr => ∃ k : Nat, k ≤ c ∧ i = .int .i64 (k : Int) ∧ Hid (Below w.heap.size w wr) ∧ ∃ ts : List Ry, ts.length = k ∧ Hid (EqR ts (fillK (c : Int) S T)) ∧ Hid (RwOwn w.heap.size wr v ts)) (fun _ i _ => c - (intOf i).toNat)
        case atStart => exact ⟨0, Nat.zero_le _, rfl, HB5, [], rfl, Lib.hid (EqR.nil _), HO5⟩
        case round =>
          clear HB4 HB5 HO5
          obtain ⟨k, hk, rfl, HB, ts, htl, HE, HO⟩ := hrel
          obtain ⟨a, cap, ev, hf⟩ := ry_form HO.out
          rw [htl] at ev
          subst ev
          by_cases hlt : k < c
          · have iN := word32_is (k : Int)
            have HTL := Lib.hid htl
            have HOA := Lib.hid (show ∀ m Z, RwOwn w.heap.size ((wr.drewN m).alloc Z) (.slice a k cap) ts from fun m Z => ry_below HO.out ((below_drewN (Below.refl wr.heap.size wr) m).alloc (Nat.le_refl _) Z))
            have HNB := Lib.hid (show ∀ m Z, ((wr.drewN m).alloc Z).heap[wr.heap.size]? = some Z from fun m Z => heap_alloc_new (wr.drewN m) Z)
            have HEQ := Lib.hid (show ∀ x y p e, Ry.is ⟨x, y, p, e⟩ (fillK (c : Int) S T k) → EqR (ts ++ [⟨x, y, p, e⟩]) (fillK (c : Int) S T) from fun x y p e he => HE.out.snoc (by rw [HTL.out]; exact he))
            have HBA := Lib.hid (show ∀ m Z W, ((wr.drewN m).alloc Z).grownBy W (Value.slice a k cap).ownBlock → Below w.heap.size w W from fun m Z W hg => (((below_drewN HB.out m).alloc (show w.heap.size ≤ (wr.drewN m).heap.size from HB.out.size) Z).grown hg (((below_drewN HB.out m).alloc (show w.heap.size ≤ (wr.drewN m).heap.size from HB.out.size) Z).size) (fun j hj => (HO.out.lt j hj).1)))
            have HSZ := Lib.hid (show ∀ m Z, w.heap.size ≤ ((wr.drewN m).alloc Z).heap.size from fun m Z => by have := HB.out.size; simp; omega)
            clear htl hf
            go_wp2_with (first | (apply wpList_farith; rfl; rfl; rfl; rfl; (first | with_reducible assumption | exact Is.const rfl); (first | with_reducible assumption | exact Is.const rfl); intro r n hr) | (go_at_call 82; refine (sSine_any _ _ (by assumption) _).mono ?_; rintro e w' ⟨⟨r, rfl, hr⟩, m, rfl⟩) | (at_builtin; refine haltR ?_))
            unfold HaltR
            refine wpList_appR rfl _ _ rfl w.heap.size _ k ts rfl (HOA.out _ _) HTL.out wr.heap.size 1 rfl _ _ _ _ (HNB.out _ _) (by omega) (HSZ.out _ _) ?_
            intro g2 cap2 w2 hO2 hg2
            have HO2 := Lib.hid hO2
            have HB2 := Lib.hid (HBA.out _ _ _ hg2)
            have HE2 := Lib.hid (HEQ.out _ _ _ _ ⟨by assumption, by assumption, by assumption, is_z9⟩)
            clear hO2 hg2
            go_wp2_with fail
            go_roundw
            case rel => exact ⟨k + 1, by omega, by go_num, HB2, ts ++ [⟨_, _, _, _⟩], by rw [List.length_append, HTL.out]; rfl, HE2, HO2⟩
            case measure => simp [intOf]; omega
          · obtain rfl : k = c := by omega
            have HTL := Lib.hid htl
            clear hlt htl hf
            go_wp2_with fail
            go_ret2
            exact ⟨⟨_, rfl, ts, HTL.out, HE.out, HO.out⟩, HB.out⟩
end Go.Proofs.Ytdoohjmjbkkmkaa
