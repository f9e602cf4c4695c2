/-
  Particles of a wave: places and speeds of any bits, the charge 1 and the mass 1; lists of them, equal ones, marks.
-/
import Derived.Test.YtlfnbnhbobohlaaPtT
import Derived.Test.YtlfnbnhbobohlaaCl
import Derived.Test.YtlfnbnhbobohlaaClM
import Derived.Deep.AppendLies
namespace Go.Proofs.Ytlfnbnhbobohlaa
open Go.Fl Go.RowKit
set_option linter.unusedSimpArgs false
set_option linter.unusedVariables false

structure Pb where
  x : Nat
  y : Nat
  u : Nat
  v : Nat
def Pb.r4 (t : Pb) : R4 := ⟨.complex .f32 t.x t.y, .complex .f32 t.u t.v, .float .f32 1065353216, .float .f32 1065353216⟩
structure IsP (t k : Pb) : Prop where
  ix : Is .f32 t.x k.x
  iy : Is .f32 t.y k.y
  iu : Is .f32 t.u k.u
  iv : Is .f32 t.v k.v
def EqP (ts : List Pb) (K : Nat → Pb) : Prop := ∀ j (h : j < ts.length), IsP ts[j] (K j)
theorem EqP.nil (K : Nat → Pb) : EqP [] K := fun j h => absurd h (Nat.not_lt_zero j)
theorem EqP.snoc {ts : List Pb} {K : Nat → Pb} {t : Pb} (h : EqP ts K) (ht : IsP t (K ts.length)) : EqP (ts ++ [t]) K := by
  intro j hj
  rw [List.length_append, List.length_singleton] at hj
  by_cases e : j < ts.length
  · rw [List.getElem_append_left e]; exact h j e
  · obtain rfl : j = ts.length := by omega
    rw [List.getElem_append_right (Nat.le_refl _)]; simpa using ht
def okPb (k : Pb) : Bool := (fin .f32 k.x && fin .f32 k.y) && (fin .f32 k.u && fin .f32 k.v)
def allPb (K : Nat → Pb) (n : Nat) : Bool := (List.range n).all fun j => okPb (K j)
theorem allPb_true {K : Nat → Pb} {n : Nat} (h : ∀ j, j < n → okPb (K j) = true) : allPb K n = true := List.all_eq_true.2 (fun j hj => h j (List.mem_range.1 hj))
theorem allPb_false {K : Nat → Pb} {n j : Nat} (hj : j < n) (h : okPb (K j) = false) : allPb K n = false := by
  cases hq : allPb K n with
  | false => rfl
  | true => have := List.all_eq_true.1 hq j (List.mem_range.2 hj); rw [h] at this; cases this
abbrev BOwn (B : Nat) (w : World) (v : Value) (ts : List Pb) : Prop := R4Own B w v (ts.map Pb.r4)
theorem b_form {B : Nat} {w : World} {v : Value} {xs : List Pb} (h : BOwn B w v xs) : ∃ a cap, v = .slice a xs.length cap ∧ (xs = [] ∨ ∃ g, a = some ⟨g, 0, none⟩ ∧ B ≤ g ∧ g < w.heap.size) := by
  obtain ⟨a, cap, e, hf⟩ := r4_form h
  rw [List.length_map] at e
  rw [List.map_eq_nil_iff] at hf
  exact ⟨a, cap, e, hf⟩
theorem b_cells {B : Nat} {w : World} {g n cap : Nat} {xs : List Pb} (h : BOwn B w (.slice (some ⟨g, 0, none⟩) n cap) xs) {k : Nat} (hk : k < xs.length) :
    w.cell? ⟨g, k * 4, none⟩ = some (.complex .f32 xs[k].x xs[k].y) ∧ w.cell? ⟨g, k * 4 + 1, none⟩ = some (.complex .f32 xs[k].u xs[k].v) ∧ w.cell? ⟨g, k * 4 + 2, none⟩ = some (.float .f32 1065353216) ∧ w.cell? ⟨g, k * 4 + 3, none⟩ = some (.float .f32 1065353216) := by
  have hr := r4_at h (k := k) (by simpa using hk)
  rw [Nat.mul_comm 4 k] at hr
  have h0 := hr 0 _ rfl; have h1 := hr 1 _ rfl; have h2 := hr 2 _ rfl; have h3 := hr 3 _ rfl
  simp only [List.getElem_map] at h0 h1 h2 h3
  exact ⟨h0, h1, h2, h3⟩

theorem sFin_any (x X : Nat) (ix : Is .f32 x X) (w : World) : Calls Try.prog 78 #[.float .f32 x] w fun e w' => e = .returned (.bool (fin .f32 X)) ∧ ∃ n, w' = w.drewN n := by
  have hq := sub_self .f32 X
  go_enter Try.func78, Try.ntmps78
  go_wp2_with (first | (apply wpList_farith; rfl; rfl; rfl; rfl; (first | with_reducible assumption | exact Is.const rfl); (first | with_reducible assumption | exact Is.const rfl); intro r n hr) | (apply wpList_fcmp; rfl; rfl; rfl; rfl; (first | with_reducible assumption | exact Is.const rfl); (first | with_reducible assumption | exact Is.const rfl); (first | with_reducible assumption | exact rfl)))
  go_ret
  exact ⟨rfl, _, rfl⟩
theorem sCFin_any (x X y Y : Nat) (ix : Is .f32 x X) (iy : Is .f32 y Y) (w : World) : Calls Try.prog 125 #[.complex .f32 x y] w fun e w' => e = .returned (.bool (fin .f32 X && fin .f32 Y)) ∧ ∃ n, w' = w.drewN n := by
  cases h : fin .f32 X with
  | true =>
    go_enter Try.func125, Try.ntmps125
    go_wp2_with fail
    refine (sFin_any _ _ ix _).mono ?_
    rintro e w' ⟨rfl, k, rfl⟩
    rw [h]
    go_wp2_with fail
    refine (sFin_any _ _ iy _).mono ?_
    rintro e w' ⟨rfl, k', rfl⟩
    go_wp2_with fail
    go_ret
    exact ⟨rfl, _, rfl⟩
  | false =>
    go_enter Try.func125, Try.ntmps125
    go_wp2_with fail
    refine (sFin_any _ _ ix _).mono ?_
    rintro e w' ⟨rfl, k, rfl⟩
    rw [h]
    go_wp2_with fail
    go_ret
    exact ⟨rfl, _, rfl⟩
set_option maxHeartbeats 1000000 in
theorem sPart_pb (g o : Nat) (t K : Pb) (h : IsP t K) (w : World) (c0 : w.cell? ⟨g, o, none⟩ = some (.complex .f32 t.x t.y)) (c1 : w.cell? ⟨g, o + 1, none⟩ = some (.complex .f32 t.u t.v)) (c2 : w.cell? ⟨g, o + 2, none⟩ = some (.float .f32 1065353216)) (c3 : w.cell? ⟨g, o + 3, none⟩ = some (.float .f32 1065353216)) :
    Calls Try.prog 85 #[.pointer (some ⟨g, o, none⟩)] w fun e w' => e = .returned (.bool (okPb K)) ∧ ∃ n, w' = w.drewN n := by
  have HT := Lib.hid h
  have f1 : fin .f32 1065353216 = true := by decide +kernel
  have f2 : fin .f32 1065353216 = true := by decide +kernel
  have f3 : fcmp .gtr .f32 1065353216 0 = true := by decide +kernel
  have i1 : Is .f32 1065353216 1065353216 := Is.const (by decide +kernel)
  have i2 : Is .f32 1065353216 1065353216 := Is.const (by decide +kernel)
  clear h
  unfold okPb
  cases h1 : (fin .f32 K.x && fin .f32 K.y) with
  | false =>
    go_enter Try.func85, Try.ntmps85
    go_wp2_with fail
    refine (sCFin_any _ _ _ _ HT.out.ix HT.out.iy _).mono ?_
    rintro e w1 ⟨rfl, k1, rfl⟩
    rw [h1]
    go_wp2_with fail
    go_ret
    exact ⟨rfl, _, rfl⟩
  | true =>
    cases h2 : (fin .f32 K.u && fin .f32 K.v) with
    | false =>
      go_enter Try.func85, Try.ntmps85
      go_wp2_with fail
      refine (sCFin_any _ _ _ _ HT.out.ix HT.out.iy _).mono ?_
      rintro e w1 ⟨rfl, k1, rfl⟩
      rw [h1]
      go_wp2_with fail
      refine (sCFin_any _ _ _ _ HT.out.iu HT.out.iv _).mono ?_
      rintro e w2 ⟨rfl, k2, rfl⟩
      rw [h2]
      go_wp2_with fail
      go_ret
      exact ⟨rfl, _, rfl⟩
    | true =>
      go_enter Try.func85, Try.ntmps85
      go_wp2_with fail
      refine (sCFin_any _ _ _ _ HT.out.ix HT.out.iy _).mono ?_
      rintro e w1 ⟨rfl, k1, rfl⟩
      rw [h1]
      go_wp2_with fail
      refine (sCFin_any _ _ _ _ HT.out.iu HT.out.iv _).mono ?_
      rintro e w2 ⟨rfl, k2, rfl⟩
      rw [h2]
      go_wp2_with fail
      refine (sFin_any _ _ i1 _).mono ?_
      rintro e w3 ⟨rfl, k3, rfl⟩
      rw [f1]
      go_wp2_with fail
      refine (sFin_any _ _ i2 _).mono ?_
      rintro e w4 ⟨rfl, k4, rfl⟩
      rw [f2]
      go_wp2_with (apply wpList_fcmp; rfl; rfl; rfl; rfl; (first | with_reducible assumption | exact Is.const rfl); (first | with_reducible assumption | exact Is.const rfl); (first | with_reducible assumption | exact rfl))
      go_ret
      exact ⟨rfl, _, rfl⟩
theorem int32_is (n : Int) : Is .f32 (floatOfInt .f32 n) (floatOfInt .f32 n) :=
  ⟨cn_of _ (show nan .f32 (FloatKind.f32.format.write (.number (n < 0) n.natAbs 0)) = false from nan_write _ (by intro s t e; cases e)), nearest_lt ..⟩
def padTo (rs : List R4) (n : Nat) : List R4 := rs ++ List.replicate (n - rs.length) ZR4
theorem padTo_len {rs : List R4} {n : Nat} (h : rs.length ≤ n) : (padTo rs n).length = n := by simp [padTo]; omega
theorem padTo_nil (n : Nat) : padTo [] n = List.replicate n ZR4 := by simp [padTo]
theorem padTo_all {rs : List R4} {n : Nat} (h : rs.length = n) : padTo rs n = rs := by simp [padTo, h]
theorem padTo_at {rs : List R4} {n : Nat} (h : rs.length < n) : (padTo rs n)[rs.length]'(by rw [padTo_len (by omega)]; exact h) = ZR4 := by
  unfold padTo
  rw [List.getElem_append_right (by simp)]
  simp
theorem padTo_set {rs : List R4} {n : Nat} (h : rs.length < n) (r : R4) : (padTo rs n).set rs.length r = padTo (rs ++ [r]) n := by
  unfold padTo
  rw [List.set_append_right _ _ (Nat.le_refl _), Nat.sub_self, show n - rs.length = n - (rs ++ [r]).length + 1 by simp; omega, List.replicate_succ, List.set_cons_zero]
  simp
theorem cells4_set1 {xs : List R4} {k : Nat} (h : k < xs.length) (v : Value) : (cells4 xs).set (k * 4 + 1) v = cells4 (xs.set k { xs[k] with v1 := v }) := by
  unfold cells4
  induction xs generalizing k with
  | nil => simp at h
  | cons u us ih =>
    cases k with
    | zero => simp [R4.cs]
    | succ k =>
      have e := ih (k := k) (by simpa using h)
      rw [List.flatMap_cons, List.set_cons_succ, List.flatMap_cons, List.getElem_cons_succ, ← e]
      simp only [R4.cs, List.cons_append, List.nil_append]
      rw [show (k + 1) * 4 + 1 = k * 4 + 1 + 1 + 1 + 1 + 1 by omega]
      simp [List.set_cons_succ]
theorem r4_set1 {B : Nat} {w : World} {g n cap : Nat} {xs : List R4} (h : R4Own B w (.slice (some ⟨g, 0, none⟩) n cap) xs) {k : Nat} (hk : k < xs.length) (v : Value) :
    R4Own B (w.setCell ⟨g, k * 4 + 1, none⟩ v) (.slice (some ⟨g, 0, none⟩) n cap) (xs.set k { xs[k] with v1 := v }) ∧ w.grownBy (w.setCell ⟨g, k * 4 + 1, none⟩ v) (some g) := by
  obtain ⟨a, cap', e, _⟩ := r4_form h
  simp only [Value.slice.injEq] at e
  obtain ⟨_, rfl, rfl⟩ := e
  unfold R4Own at h ⊢
  obtain ⟨h1, g1⟩ := h.stored (k * 4 + 1) v
  rw [cells4_set1 hk] at h1
  rw [List.length_set]
  exact ⟨h1, g1⟩

theorem grown_setRow (w : World) (g : Nat) (cs : Array Value) : w.grownBy (w.setRow g cs) (some g) := ⟨rfl, rfl, rfl, by simp [World.setRow], fun k hk hr => setRow_other w g k cs (fun e => hr (by rw [e]))⟩
theorem hstep_store {P : Program} {ops : Array Oper} {o : Oper} {a : Act} {w : World} {K : Act → World → Prop} {Q : Exit → Act → World → Prop} {E : Prop} (hgd : o.guard = none) (ty : TypeId) (x y : Operand) (ho : o.op = .store ty x y)
    (g : Nat) (cells : Array Value) (hx : a.eval x = .pointer (some ⟨g, 0, none⟩)) (hy : a.eval y = .agg cells)
    (t : TypeId) (old : Array Value) (hg : w.heap[g]? = some (.cells old t (0, 0))) (hi : (P.info? ty).map (·.size) = some cells.size)
    (hold : old.size = cells.size) (h1 : cells.all (·.oneCell') = true)
    (h : K (a.put o.dst undef) (w.setRow g cells)) : if Region.wanted o (yielded ops a.tmps) = true then Oper.wp P o a w K Q else E := by
  have hw : Region.wanted o (yielded ops a.tmps) = true := by simp [Region.wanted, hgd]
  rw [if_pos hw]
  exact wp_store_row ty x y ho g cells hx hy t old hg hi hold h1 h

theorem wpList_app4 {ops : Array Oper} {rest : List Oper} {o : Oper} {a : Act} {w : World} {Q : Exit → Act → World → Prop} (hgd : o.guard = none) (s x : Operand) (ho : o.op = .call { callee := .builtin .append, args := #[s, x], argTypes := #[49, 49] })
    (B : Nat) (v : Value) (n : Nat) (xs : List R4) (hs : a.eval s = v) (hown : R4Own B w v xs) (hl : xs.length = n) (g c : Nat) (hx : a.eval x = .slice (some ⟨g, 0, none⟩) 1 c) (v0 v1 v2 v3 : Value) (hb : w.heap[g]? = some (.cells #[v0, v1, v2, v3] 72))
    (h0 : v0.oneCell' = true) (h1 : v1.oneCell' = true) (h2 : v2.oneCell' = true) (h3 : v3.oneCell' = true) (hn : n ≤ 1000) (hB : B ≤ w.heap.size)
    (h : ∀ g' cap' w', R4Own B w' (.slice (some ⟨g', 0, none⟩) (n + 1) cap') (xs ++ [⟨v0, v1, v2, v3⟩]) → w.grownBy w' v.ownBlock → wpList Try.prog ops Q rest (a.put o.dst (.slice (some ⟨g', 0, none⟩) (n + 1) cap')) w') : wpList Try.prog ops Q (o :: rest) a w := by
  obtain ⟨ti, hi, hz0, hz1, hz2⟩ := info_parts PTinfo
  subst hl
  refine wpList_append_own w hgd s x 49 ho B 72 ti (.agg ZC) 4 24 Try.underlying49 hi hz0 hz1 hz2 rfl (by decide) v xs.length (cells4 xs) hs hown ⟨g, 0, none⟩ 1 c [v0, v1, v2, v3] hx rfl (World.news_of_block (cs := #[v0, v1, v2, v3]) (t := 72) (fr := (0, 0)) hb) (by intro u hu; simp at hu; rcases hu with rfl | rfl | rfl | rfl <;> assumption) (by unfold maxLen; omega) (by omega) hB ?_
  intro v' w' hown' hgrow _
  obtain ⟨g2, cap2, rfl⟩ := Joins.ownsRow_form hown' (by omega)
  refine h g2 cap2 w' ?_ hgrow
  unfold R4Own
  rw [cells4_app, List.length_append, List.length_singleton]
  exact hown'

def Halted (p : Prop) : Prop := p
theorem halted {p : Prop} (h : Halted p) : p := h
theorem grown_own9 (w : World) (b i : Nat) (v : Value) : w.grownBy (w.setCell ⟨b, i, none⟩ v) (some b) :=
  ⟨rfl, rfl, rfl, by simp, fun k hk hr => heap_setCell_other w ⟨b, i, none⟩ k v (fun e => hr (by rw [e]))⟩
theorem b_kept {B B' g : Nat} {w w' : World} {v : Value} {ts : List Pb} (h : BOwn B w v ts) (hg : w.grownBy w' (some g)) (hB : B' ≤ g ∧ g < B ∨ B' ≤ B ∧ g < B) : BOwn B' w' v ts := by
  have hl := h.lt
  refine Joins.ownsRow_le (World.ownsRow.kept h hg ?_) (by omega)
  cases hb : v.ownBlock with
  | none => exact .inl rfl
  | some j => exact .inr (fun e => by have := hl j hb; have := Option.some.inj e; omega)

set_option maxHeartbeats 2000000 in
theorem eqPart_any (t u k : Pb) (ht : IsP t k) (hu : IsP u k) (w : World) : Calls Try.prog 87 #[t.r4.val, u.r4.val] w fun e w' => e = .returned (.bool true) ∧ Below w.heap.size w w' := by
  obtain ⟨ix, iy, iu, iv⟩ := ht
  obtain ⟨jx, jy, ju, jv⟩ := hu
  have i1 : Is .f32 1065353216 1065353216 := Is.const (by decide +kernel)
  have i2 : Is .f32 1065353216 1065353216 := Is.const (by decide +kernel)
  unfold R4.val Pb.r4
  have HB0 := Lib.hid (((Below.refl w.heap.size w).alloc (Nat.le_refl _) (.cells #[.complex .f32 t.x t.y, .complex .f32 t.u t.v, .float .f32 1065353216, .float .f32 1065353216] 72)).alloc (by simp) (.cells #[.complex .f32 u.x u.y, .complex .f32 u.u u.v, .float .f32 1065353216, .float .f32 1065353216] 72))
  go_enter Try.func87, Try.ntmps87
  go_wp2_with (first | (apply wpList_cwid; rfl; rfl; (first | with_reducible assumption | exact Is.const rfl); (first | with_reducible assumption | exact Is.const rfl); exact C32; exact C64; intro r s n hr hs) | (apply wpList_wid; rfl; rfl; (first | with_reducible assumption | exact Is.const rfl); exact U32; exact U64; intro r n hr) | (go_at_call 31; ((with_reducible refine (sameC_any _ _ _ _ _ _ (by assumption) (by assumption) (by assumption) (by assumption) _).mono ?_); rintro e w' ⟨rfl, n, rfl⟩)) | (go_at_call 41; ((with_reducible refine (sameFloat_any _ _ _ (by assumption) (by assumption) _).mono ?_); rintro e w' ⟨rfl, n, rfl⟩)))
  go_ret
  exact ⟨rfl, below_drewN HB0.out _⟩

set_option maxHeartbeats 2000000 in
set_option maxRecDepth 100000 in
theorem eqParts_any (B B' : Nat) (v v' : Value) (ts us : List Pb) (K : Nat → Pb) (w : World) (hv : BOwn B w v ts) (hv' : BOwn B' w v' us) (hl : ts.length = us.length) (h : EqP ts K) (h' : EqP us K) (hn : ts.length ≤ 64) :
    Calls Try.prog 36 #[v, v'] w fun e w' => e = .returned (.bool true) ∧ Below w.heap.size w w' := by
  obtain ⟨a, cap, rfl, hf⟩ := b_form hv
  obtain ⟨a', cap', rfl, hf'⟩ := b_form hv'
  rw [← hl]
  have HU := Lib.hid hv; have HV := Lib.hid hv'; have HO := Lib.hid h; have HO' := Lib.hid h'; have HL := Lib.hid hl
  clear hv hv' h h' hl
  go_enter Try.func36, Try.ntmps36
  go_wp2
  go_loopw [5] (fun i wr => ∃ k : Nat, k ≤ ts.length ∧ i = .int .i64 k ∧ Below w.heap.size w wr) (fun i _ => ts.length - (intOf i).toNat)
  case atStart => exact ⟨0, Nat.zero_le _, rfl, Below.refl _ _⟩
  case round =>
    obtain ⟨k, hk, rfl, hb⟩ := hrel
    by_cases hlt : k < ts.length
    · have hlt' : k < us.length := HL.out ▸ hlt
      rcases hf with hf | ⟨g, rfl, _, hg⟩
      · subst hf; simp at hlt
      rcases hf' with hf' | ⟨g', rfl, _, hg'⟩
      · subst hf'; simp at hlt'
      have HT := Lib.hid (HO.out k hlt); have HT' := Lib.hid (HO'.out k hlt')
      have HE := Lib.hid (fun w2 (h2 : Below w.heap.size w w2) => b_cells (r4_below HU.out h2) hlt)
      have HV' := Lib.hid (show BOwn B' w (.slice (some ⟨g', 0, none⟩) us.length cap') us from HV.out)
      have HE' := Lib.hid (fun w2 (h2 : Below w.heap.size w w2) => b_cells (r4_below HV'.out h2) hlt')
      generalize ts[k] = t at HE HT
      generalize us[k] = u at HE' HT'
      have hd := (Below.refl wr.heap.size wr).drew
      have HC := Lib.hid (show ∀ w2, Below wr.heap.size wr w2 → (w2.cell? ⟨g, k * 4, none⟩ = some (.complex .f32 t.x t.y) ∧ w2.cell? ⟨g, k * 4 + 1, none⟩ = some (.complex .f32 t.u t.v) ∧ w2.cell? ⟨g, k * 4 + 2, none⟩ = some (.float .f32 1065353216) ∧ w2.cell? ⟨g, k * 4 + 3, none⟩ = some (.float .f32 1065353216)) ∧
          w2.cell? ⟨g', k * 4, none⟩ = some (.complex .f32 u.x u.y) ∧ w2.cell? ⟨g', k * 4 + 1, none⟩ = some (.complex .f32 u.u u.v) ∧ w2.cell? ⟨g', k * 4 + 2, none⟩ = some (.float .f32 1065353216) ∧ w2.cell? ⟨g', k * 4 + 3, none⟩ = some (.float .f32 1065353216) from fun w2 h2 =>
        ⟨HE.out w2 (hb.trans (h2.mono hb.size)), HE'.out w2 (hb.trans (h2.mono hb.size))⟩)
      have HB := Lib.hid hb
      clear hb
      go_wp2_with fail
      refine wp_region_noPanic ?_
      refine wp_region_held_drew (S := fun w2 => (w2.cell? ⟨g, k * 4, none⟩ = some (.complex .f32 t.x t.y) ∧ w2.cell? ⟨g, k * 4 + 1, none⟩ = some (.complex .f32 t.u t.v) ∧ w2.cell? ⟨g, k * 4 + 2, none⟩ = some (.float .f32 1065353216) ∧ w2.cell? ⟨g, k * 4 + 3, none⟩ = some (.float .f32 1065353216)) ∧
          w2.cell? ⟨g', k * 4, none⟩ = some (.complex .f32 u.x u.y) ∧ w2.cell? ⟨g', k * 4 + 1, none⟩ = some (.complex .f32 u.u u.v) ∧ w2.cell? ⟨g', k * 4 + 2, none⟩ = some (.float .f32 1065353216) ∧ w2.cell? ⟨g', k * 4 + 3, none⟩ = some (.float .f32 1065353216)) (by kernel_rfl) (HC.out _ hd) (fun hHeld => ?_)
      ((refine wpAnyH_take (i := 0) (v := ?_) rfl (by kernel_rfl) (by kernel_rfl) (by kernel_rfl) (fun _ _ _ h => h) (Or.inl ⟨by rfl, ?_⟩) (by assumption) ?_; rotate_left; (· intro w hSw; (try dsimp only at hSw); go_simp; first | done | with_reducible rfl); (try simp only [List.getElem_toArray, List.getElem_cons_zero, List.getElem_cons_succ, Act.put, List.setIfInBounds_toArray, List.set_cons_zero, List.set_cons_succ])); (refine wpAnyH_take (i := 1) (v := ?_) rfl (by kernel_rfl) (by kernel_rfl) (by kernel_rfl) (fun _ _ _ h => h) (Or.inl ⟨by rfl, ?_⟩) (by assumption) ?_; rotate_left; (· intro w hSw; (try dsimp only at hSw); go_simp; first | done | with_reducible rfl); (try simp only [List.getElem_toArray, List.getElem_cons_zero, List.getElem_cons_succ, Act.put, List.setIfInBounds_toArray, List.set_cons_zero, List.set_cons_succ])); (refine wpAnyH_take (i := 2) (v := ?_) rfl (by kernel_rfl) (by kernel_rfl) (by kernel_rfl) (fun _ _ _ h => h) (Or.inl ⟨by rfl, ?_⟩) (by assumption) ?_; rotate_left; (· intro w hSw; (try dsimp only at hSw); go_simp; first | done | with_reducible rfl); (try simp only [List.getElem_toArray, List.getElem_cons_zero, List.getElem_cons_succ, Act.put, List.setIfInBounds_toArray, List.set_cons_zero, List.set_cons_succ])); (refine wpAnyH_take (i := 3) (v := ?_) rfl (by kernel_rfl) (by kernel_rfl) (by kernel_rfl) (fun _ _ _ h => h) (Or.inl ⟨by rfl, ?_⟩) (by assumption) ?_; rotate_left; (· intro w hSw; (try dsimp only at hSw); go_simp; first | done | with_reducible rfl); (try simp only [List.getElem_toArray, List.getElem_cons_zero, List.getElem_cons_succ, Act.put, List.setIfInBounds_toArray, List.set_cons_zero, List.set_cons_succ])); (refine wpAnyH_take (i := 4) (v := ?_) rfl (by kernel_rfl) (by kernel_rfl) (by kernel_rfl) (fun _ _ _ h => h) (Or.inl ⟨by rfl, ?_⟩) (by assumption) ?_; rotate_left; (· intro w hSw; (try dsimp only at hSw); go_simp; first | done | with_reducible rfl); (try simp only [List.getElem_toArray, List.getElem_cons_zero, List.getElem_cons_succ, Act.put, List.setIfInBounds_toArray, List.set_cons_zero, List.set_cons_succ])); (refine wpAnyH_take (i := 5) (v := ?_) rfl (by kernel_rfl) (by kernel_rfl) (by kernel_rfl) (fun _ _ _ h => h) (Or.inl ⟨by rfl, ?_⟩) (by assumption) ?_; rotate_left; (· intro w hSw; (try dsimp only at hSw); go_simp; first | done | with_reducible rfl); (try simp only [List.getElem_toArray, List.getElem_cons_zero, List.getElem_cons_succ, Act.put, List.setIfInBounds_toArray, List.set_cons_zero, List.set_cons_succ])); (refine wpAnyH_take (i := 6) (v := ?_) rfl (by kernel_rfl) (by kernel_rfl) (by kernel_rfl) (fun _ _ _ h => h) (Or.inl ⟨by rfl, ?_⟩) (by assumption) ?_; rotate_left; (· intro w hSw; (try dsimp only at hSw); go_simp; first | done | with_reducible rfl); (try simp only [List.getElem_toArray, List.getElem_cons_zero, List.getElem_cons_succ, Act.put, List.setIfInBounds_toArray, List.set_cons_zero, List.set_cons_succ])); (refine wpAnyH_take (i := 7) (v := ?_) rfl (by kernel_rfl) (by kernel_rfl) (by kernel_rfl) (fun _ _ _ h => h) (Or.inl ⟨by rfl, ?_⟩) (by assumption) ?_; rotate_left; (· intro w hSw; (try dsimp only at hSw); go_simp; first | done | with_reducible rfl); (try simp only [List.getElem_toArray, List.getElem_cons_zero, List.getElem_cons_succ, Act.put, List.setIfInBounds_toArray, List.set_cons_zero, List.set_cons_succ])))
      (refine wpAnyH_ready (rs := [8]) (by kernel_rfl) (by simp) ?_; refine AllReadyH.cons (i := 8) rfl (fun K hK => ?_) AllReadyH.nil)
      go_simp
      refine (eqPart_any t u _ HT.out HT'.out _).mono ?_; rintro e w3 ⟨rfl, h3⟩
      have HD3 := Lib.hid (hd.trans (h3.mono hd.size))
      clear h3 hd
      go_wp2_with fail
      (refine hK.out _ _ (HC.out _ HD3.out) (fun hHeld => ?_); clear hK K; (try simp only [List.getElem_toArray, List.getElem_cons_zero, List.getElem_cons_succ, Act.put, List.setIfInBounds_toArray, List.set_cons_zero, List.set_cons_succ]))
      ((refine wpAnyH_take (i := 9) (v := ?_) rfl (by kernel_rfl) (by kernel_rfl) (by kernel_rfl) (fun _ _ _ h => h) (Or.inl ⟨by rfl, ?_⟩) (by assumption) ?_; rotate_left; (· intro w hSw; (try dsimp only at hSw); go_simp; first | done | with_reducible rfl); (try simp only [List.getElem_toArray, List.getElem_cons_zero, List.getElem_cons_succ, Act.put, List.setIfInBounds_toArray, List.set_cons_zero, List.set_cons_succ])))
      (refine wpAnyH_done (by kernel_rfl) ?_ _; refine NoPanic.normal ?_)
      clear hHeld
      go_wp2_with fail
      go_roundw
      case rel => exact ⟨k + 1, by omega, by go_num, HB.out.trans (HD3.out.mono HB.out.size)⟩
      case measure => simp [intOf]; omega
    · obtain rfl : k = ts.length := by omega
      clear hlt
      go_wp2
      go_ret
      exact ⟨rfl, hb⟩

def MR (k : Nat) : R4 := ⟨.complex .f32 (floatOfInt .f32 (4 * (k : Int) + 1)) 1065353216, .complex .f32 (floatOfInt .f32 (4 * (k : Int) + 1 + 1)) 1065353216, .float .f32 (floatOfInt .f32 (4 * (k : Int) + 1 + 1 + 1)), .float .f32 (floatOfInt .f32 (4 * (k : Int) + 1 + 1 + 1 + 1))⟩
def marksR (n : Nat) : List R4 := (List.range n).map MR
theorem marksR_len (n : Nat) : (marksR n).length = n := by simp [marksR]
theorem marksR_at (n k : Nat) (h : k < n) : (marksR n)[k]'(by rw [marksR_len]; exact h) = MR k := by simp [marksR]
theorem marksR_all (xs : List R4) (n : Nat) (hn : xs.length = n) (h : ∀ i (hi : i < xs.length), xs[i] = MR i) : xs = marksR n := by
  refine List.ext_getElem (by rw [marksR_len, hn]) fun i h1 h2 => ?_
  rw [marksR_at n i (by omega)]; exact h i h1
theorem conv_run' (m : Int) (h0 : 1 ≤ m) (h1 : m ≤ 256) (w : World) : (convert 45 41 (.complex .f64 (floatOfInt .f64 m) 4607182418800017408)).run Try.prog w = .ok (.complex .f32 (floatOfInt .f32 m) 1065353216) w := by
  have h := conv_run (m - 1).toNat (by omega) w
  rw [show (((m - 1).toNat : Int) + 1) = m by omega] at h
  exact h
/-- What a particle of a list looks like, whatever it holds. -/
def PC4 (r : R4) : Prop := (∃ a b, r.v0 = .complex .f32 a b) ∧ (∃ a b, r.v1 = .complex .f32 a b) ∧ (∃ a, r.v2 = .float .f32 a) ∧ (∃ a, r.v3 = .float .f32 a)
theorem mr_pc (k : Nat) : PC4 (MR k) := ⟨⟨_, _, rfl⟩, ⟨_, _, rfl⟩, ⟨_, rfl⟩, ⟨_, rfl⟩⟩
theorem pb_pc (t : Pb) : PC4 t.r4 := ⟨⟨_, _, rfl⟩, ⟨_, _, rfl⟩, ⟨_, rfl⟩, ⟨_, rfl⟩⟩

set_option maxHeartbeats 4000000 in
set_option maxRecDepth 100000 in
theorem markParts_any (B : Nat) (v : Value) (xs : List R4) (w : World) (hv : R4Own B w v xs) (hx : ∀ i (h : i < xs.length), PC4 xs[i]) (hn : xs.length ≤ 64) :
    Calls Try.prog 37 #[v, .int .i64 1] w fun e w' => e = .returned (.int .i64 (4 * (xs.length : Int) + 1)) ∧ R4Own B w' v (marksR xs.length) ∧ w.grownBy w' v.ownBlock := by
  obtain ⟨a, cap, rfl, hf⟩ := r4_form hv
  have HV := Lib.hid hv; have HX := Lib.hid hx
  clear hv hx
  go_enter Try.func37, Try.ntmps37
  go_wp2
  go_loopw [1, 5] (fun m i wr => ∃ k : Nat, k ≤ xs.length ∧ m = .int .i64 (4 * (k : Int) + 1) ∧ i = .int .i64 (k : Int) ∧ Hid (w.grownBy wr (Value.slice a xs.length cap).ownBlock) ∧ ∃ ys : List R4, ys.length = xs.length ∧ Hid (∀ i (h : i < ys.length), i < k → ys[i] = MR i) ∧ Hid (∀ i (h : i < ys.length), PC4 ys[i]) ∧ Hid (R4Own B wr (.slice a xs.length cap) ys)) (fun _ i _ => xs.length - (intOf i).toNat)
  case atStart => exact ⟨0, Nat.zero_le _, rfl, rfl, Lib.hid (grown_refl _ _), xs, rfl, Lib.hid (fun i _ h => absurd h (Nat.not_lt_zero _)), HX, HV⟩
  case round =>
    obtain ⟨k, hk, rfl, rfl, HG, ys, hyl, HM, HP, HO⟩ := hrel
    by_cases hlt : k < xs.length
    · rcases hf with hf | ⟨g, rfl, _, _⟩
      · subst hf; simp at hlt
      have HLT := Lib.hid (show k < ys.length by omega)
      obtain ⟨⟨d0, d1, d2, d3⟩, ⟨f0, f1, f2, f3⟩⟩ := r4_cells HO.out HLT.out
      obtain ⟨⟨a0, b0, h0⟩, ⟨a1, b1, h1⟩, ⟨a2, h2⟩, ⟨a3, h3⟩⟩ := HP.out k HLT.out
      rw [h0] at d0; rw [h1] at d1; rw [h2] at d2; rw [h3] at d3
      have HST := Lib.hid (r4_set HO.out HLT.out (MR k))
      have HYL := Lib.hid hyl
      have hcv1 := conv_run' (4 * (k : Int) + 1) (by omega) (by omega)
      have hcv2 := conv_run' (4 * (k : Int) + 1 + 1) (by omega) (by omega)
      clear h0 h1 h2 h3 hyl
      go_wp2
      go_roundw
      case rel => exact ⟨k + 1, by omega, by go_num <;> (first | done | omega), by go_num, Lib.hid (grown_trans HG.out HST.out.2), ys.set k (MR k), by rw [List.length_set]; exact HYL.out, Lib.hid (fun i h hi => by
        rw [List.length_set] at h
        by_cases e : i = k
        · subst e; exact List.getElem_set_self _
        · rw [List.getElem_set_ne (Ne.symm e)]; exact HM.out i h (by omega)), Lib.hid (fun i h => by
        rw [List.length_set] at h
        by_cases e : i = k
        · subst e; rw [List.getElem_set_self]; exact mr_pc _
        · rw [List.getElem_set_ne (Ne.symm e)]; exact HP.out i h), Lib.hid HST.out.1⟩
      case measure => simp [intOf]; omega
    · obtain rfl : k = xs.length := by omega
      have hys : ys = marksR xs.length := marksR_all ys _ hyl (fun i hi => HM.out i hi (by omega))
      subst hys
      clear hlt
      go_wp2
      go_ret
      exact ⟨rfl, HO.out, HG.out⟩

theorem neq_self32 (m : Int) : fcmp .neq .f32 (floatOfInt .f32 m) (floatOfInt .f32 m) = false := by rw [fcmp_neq_self]; exact word32_nan _

set_option maxHeartbeats 4000000 in
set_option maxRecDepth 100000 in
theorem heldParts_any (B : Nat) (v : Value) (n : Nat) (w : World) (hv : R4Own B w v (marksR n)) (hn : n ≤ 64) :
    Calls Try.prog 38 #[v, .int .i64 1] w fun e w' => e = .returned (.int .i64 (4 * (n : Int) + 1)) ∧ ∃ m, w' = w.drewN m := by
  obtain ⟨a, cap, rfl, hf⟩ := r4_form hv
  have HV := Lib.hid hv
  rw [marksR_len]
  clear hv
  go_enter Try.func38, Try.ntmps38
  go_wp2
  go_loopw [1, 5] (fun m i wr => ∃ k : Nat, k ≤ n ∧ m = .int .i64 (4 * (k : Int) + 1) ∧ i = .int .i64 (k : Int) ∧ ∃ j, wr = w.drewN j) (fun _ i _ => n - (intOf i).toNat)
  case atStart => exact ⟨0, Nat.zero_le _, rfl, rfl, 0, rfl⟩
  case round =>
    obtain ⟨k, hk, rfl, rfl, j, rfl⟩ := hrel
    by_cases hlt : k < n
    · rcases hf with hf | ⟨g, rfl, _, _⟩
      · have := congrArg List.length hf; rw [marksR_len] at this; simp at this; omega
      have HLT := Lib.hid (show k < (marksR n).length by rw [marksR_len]; exact hlt)
      obtain ⟨⟨d0, d1, d2, d3⟩, _⟩ := r4_cells HV.out HLT.out
      rw [marksR_at n k hlt] at d0 d1 d2 d3
      unfold MR at d0 d1 d2 d3
      dsimp only at d0 d1 d2 d3
      have hcv1 := conv_run' (4 * (k : Int) + 1) (by omega) (by omega)
      have hcv2 := conv_run' (4 * (k : Int) + 1 + 1) (by omega) (by omega)
      have ho1 := ord_self (floatOfInt .f32 (4 * (k : Int) + 1)) (word32_nan _)
      have ho2 := ord_self (floatOfInt .f32 (4 * (k : Int) + 1 + 1)) (word32_nan _)
      have ho3 := ord_one
      have i3 := int32_is (4 * (k : Int) + 1 + 1 + 1); have i4 := int32_is (4 * (k : Int) + 1 + 1 + 1 + 1)
      have n3 := neq_self32 (4 * (k : Int) + 1 + 1 + 1); have n4 := neq_self32 (4 * (k : Int) + 1 + 1 + 1 + 1)
      go_wp2_with (apply wpList_fcmp; rfl; rfl; rfl; rfl; (first | with_reducible assumption | exact Is.const rfl); (first | with_reducible assumption | exact Is.const rfl); (first | with_reducible assumption | exact rfl))
      go_roundw
      case rel => exact ⟨k + 1, by omega, by go_num <;> (first | done | omega), by go_num, _, rfl⟩
      case measure => simp [intOf]; omega
    · obtain rfl : k = n := by omega
      clear hlt
      go_wp2
      go_ret
      exact ⟨rfl, _, rfl⟩


end Go.Proofs.Ytlfnbnhbobohlaa
