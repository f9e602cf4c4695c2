/-
  What the laws of the last part draw: a cloud.
-/
import Derived.Test.YtnknhfhllifnhaaB10
import Derived.Test.YtnknhfhllifnhaaR8L
import Derived.Test.YtnknhfhllifnhaaCg
import Derived.Test.YtnknhfhllifnhaaRegB
import Derived.Test.YtnknhfhllifnhaaPtS
import Derived.Deep.CutRange
namespace Go.Proofs.Ytnknhfhllifnhaa
open Go.Fl Go.RowKit Go.Nl
set_option linter.unusedSimpArgs false
set_option linter.unusedVariables false

/-- A drawn particle of the last part. -/
structure Here10 (t : Pt) : Prop where
  ok : t.ok
  n0 : 0 ≤ t.n
  n1 : t.n < 56
  m0 : 0 ≤ t.m
  m1 : t.m < 56
/-- A cloud that is being drawn: the source, the list, the cloud's box. -/
structure CB (w0 : World) (g B bc : Nat) (c : Value) (a b : Int) (mm kk k gv cap : Nat) (ts : List Pt) (W : World) : Prop where
  src : Src w0 g W c k
  own : POwn B W (.slice (some ⟨gv, 0, none⟩) ts.length cap) ts
  box : W.heap[bc]? = some (.cells (CGc a b (.slice (some ⟨gv, 0, none⟩) ts.length cap) mm kk) 48)
  gB : g < B
  bB : B ≤ bc
  ne : bc ≠ gv
  zB : B ≤ W.heap.size
section
variable {w0 W W' : World} {g B bc : Nat} {c : Value} {a b : Int} {mm kk k k' gv cap : Nat} {ts : List Pt}
theorem CB.lt (h : CB w0 g B bc c a b mm kk k gv cap ts W) : bc < W.heap.size := (Array.getElem?_eq_some_iff.1 h.box).1
theorem CB.pick (h : CB w0 g B bc c a b mm kk k gv cap ts W) (S : Src w0 g W' c k') (G : W.grownBy W' (some g)) : CB w0 g B bc c a b mm kk k' gv cap ts W' :=
  ⟨S, r4_grown (u := .slice (some ⟨g, 0, none⟩) 0 0) h.own G (p_own_lt h.own h.gB), (G.block bc h.lt (fun e => by have h1 := h.gB; have h2 := h.bB; have := Option.some.inj e; omega)).trans h.box, h.gB, h.bB, h.ne, Nat.le_trans h.zB G.size⟩
theorem CB.step (h : CB w0 g B bc c a b mm kk k gv cap ts W) (hb : Below W.heap.size W W') : CB w0 g B bc c a b mm kk k gv cap ts W' :=
  ⟨h.src.below hb, r4_below h.own hb, (hb.block bc h.lt).trans h.box, h.gB, h.bB, h.ne, Nat.le_trans h.zB hb.size⟩
theorem CB.cells (h : CB w0 g B bc c a b mm kk k gv cap ts W) : (W.cell? ⟨bc, 0, none⟩ = some (.int .i64 a) ∧ W.cell? ⟨bc, 1, none⟩ = some (.int .i64 b) ∧ W.cell? ⟨bc, 2, none⟩ = some (.slice (some ⟨gv, 0, none⟩) ts.length cap) ∧ W.cell? ⟨bc, 3, none⟩ = some (.float .f32 mm) ∧ W.cell? ⟨bc, 4, none⟩ = some (.float .f32 kk)) ∧ ∀ j, W.frozen? ⟨bc, j, none⟩ = false :=
  ⟨five_cells h.box, fun j => by simp [World.frozen?, h.box]⟩
end

theorem heap_set {W : World} {b i : Nat} {cs : Array Value} {t : TypeId} (h : W.heap[b]? = some (.cells cs t)) (v : Value) : (W.setCell ⟨b, i, none⟩ v).heap[b]? = some (.cells (cs.setIfInBounds i v) t) := by
  simp [World.setCell, h, Array.getElem?_modify]
theorem CB.keep {w0 W W' : World} {g B bc : Nat} {c : Value} {a b : Int} {mm kk k gv cap : Nat} {ts : List Pt} (h : CB w0 g B bc c a b mm kk k gv cap ts W) (hg : W.grownBy W' (some gv)) : W'.heap[bc]? = some (.cells (CGc a b (.slice (some ⟨gv, 0, none⟩) ts.length cap) mm kk) 48) :=
  (hg.block bc h.lt (fun e => h.ne (Option.some.inj e))).trans h.box
theorem CB.put {w0 W : World} {g B bc : Nat} {c : Value} {a b : Int} {mm kk k gv cap : Nat} {ts : List Pt} (h : CB w0 g B bc c a b mm kk k gv cap ts W) (i : Nat) (v : Value) : Src w0 g (W.setCell ⟨bc, i, none⟩ v) c k ∧ POwn B (W.setCell ⟨bc, i, none⟩ v) (.slice (some ⟨gv, 0, none⟩) ts.length cap) ts ∧ B ≤ (W.setCell ⟨bc, i, none⟩ v).heap.size := by
  have h1 := h.gB; have h2 := h.bB
  exact ⟨h.src.set (by show g < bc; omega) _, World.ownsRow.kept (row := some bc) h.own (grown_cell W bc i v) (.inr (fun e => h.ne (Option.some.inj e).symm)), by have := h.zB; simp; omega⟩
theorem CB.setM {w0 W : World} {g B bc : Nat} {c : Value} {a b : Int} {mm kk k gv cap : Nat} {ts : List Pt} (h : CB w0 g B bc c a b mm kk k gv cap ts W) (x : Nat) : CB w0 g B bc c a b x kk k gv cap ts (W.setCell ⟨bc, 3, none⟩ (.float .f32 x)) := by
  obtain ⟨h1, h2, h3⟩ := h.put 3 (.float .f32 x)
  exact ⟨h1, h2, heap_set h.box _, h.gB, h.bB, h.ne, h3⟩
theorem CB.setK {w0 W : World} {g B bc : Nat} {c : Value} {a b : Int} {mm kk k gv cap : Nat} {ts : List Pt} (h : CB w0 g B bc c a b mm kk k gv cap ts W) (x : Nat) : CB w0 g B bc c a b mm x k gv cap ts (W.setCell ⟨bc, 4, none⟩ (.float .f32 x)) := by
  obtain ⟨h1, h2, h3⟩ := h.put 4 (.float .f32 x)
  exact ⟨h1, h2, heap_set h.box _, h.gB, h.bB, h.ne, h3⟩
theorem CB.next {w0 W W' : World} {g B bc : Nat} {c : Value} {a b : Int} {mm kk k gv cap g' cap' : Nat} {ts : List Pt} {t : Pt} (h : CB w0 g B bc c a b mm kk k gv cap ts W)
    (ho : R4Own B W' (.slice (some ⟨g', 0, none⟩) (ts.length + 1) cap') (ts.map Pt.r4 ++ [t.r4])) (hg : W.grownBy W' (some gv)) (hn : bc ≠ g') :
    CB w0 g B bc c a b mm kk k g' cap' (ts ++ [t]) (W'.setCell ⟨bc, 2, none⟩ (.slice (some ⟨g', 0, none⟩) (ts.length + 1) cap')) := by
  have hB : B ≤ gv := (h.own.lt gv rfl).1
  have h1 := h.gB; have h2 := h.bB; have h3 := h.src.2.1
  have hb : Below w0.heap.size w0 W' := below_row h.src.1 h.src.1.size (by omega) hg
  have e : (ts ++ [t]).length = ts.length + 1 := by simp
  refine ⟨(h.src.kept hg (fun e => by have := Option.some.inj e; omega) hb).set (by show g < bc; omega) _, ?_, ?_, h.gB, h.bB, hn, by have := h.zB; have := hg.size; simp; omega⟩
  · rw [e]
    have h5 := World.ownsRow.kept (row := some bc) ho (grown_cell W' bc 2 (.slice (some ⟨g', 0, none⟩) (ts.length + 1) cap')) (.inr (fun e => hn (Option.some.inj e).symm))
    unfold POwn R4Own
    rw [List.map_append]
    exact h5
  · rw [e]
    exact heap_set (h.keep hg) _

theorem hstep_app4 {ops : Array Oper} {o : Oper} {a : Act} {w : World} {K : Act → World → Prop} {Q : Exit → Act → World → Prop} {E : Prop} (hgd : o.guard = none) (s x : Operand) (ho : o.op = .call { callee := .builtin .append, args := #[s, x], argTypes := #[27, 27] })
    (B : Nat) (v : Value) (n : Nat) (xs : List R4) (hs : a.eval s = v) (hown : R4Own B w v xs) (hl : xs.length = n) (g c : Nat) (hx : a.eval x = .slice (some ⟨g, 0, none⟩) 1 c) (v0 v1 v2 v3 : Value) (hb : w.heap[g]? = some (.cells #[v0, v1, v2, v3] 57))
    (h0 : v0.oneCell' = true) (h1 : v1.oneCell' = true) (h2 : v2.oneCell' = true) (h3 : v3.oneCell' = true) (hn : n ≤ 1000) (hB : B ≤ w.heap.size)
    (h : ∀ g' cap' w', R4Own B w' (.slice (some ⟨g', 0, none⟩) (n + 1) cap') (xs ++ [⟨v0, v1, v2, v3⟩]) → w.grownBy w' v.ownBlock → (v.ownBlock = some g' ∨ g' = w.heap.size) → K (a.put o.dst (.slice (some ⟨g', 0, none⟩) (n + 1) cap')) w') :
    if Region.wanted o (yielded ops a.tmps) = true then Oper.wp Try.prog o a w K Q else E := by
  obtain ⟨ti, hi, hz0, hz1, hz2⟩ := info_parts PTinfo
  subst hl
  refine step_append_lies w hgd s x 27 ho B 57 ti (.agg ZC) 4 24 Try.underlying27 hi hz0 hz1 hz2 rfl (by decide) v xs.length (cells4 xs) hs hown ⟨g, 0, none⟩ 1 c [v0, v1, v2, v3] hx rfl (World.news_of_block (cs := #[v0, v1, v2, v3]) (t := 57) (fr := (0, 0)) hb) (by intro u hu; simp at hu; rcases hu with rfl | rfl | rfl | rfl <;> assumption) (by decide) (by unfold maxLen; omega) (by omega) hB w.heap.size rfl ?_
  intro g' cap' w' hown' hgrow hor _
  refine h g' cap' w' ?_ hgrow hor
  unfold R4Own
  rw [cells4_app, List.length_append, List.length_singleton]
  exact hown'

theorem of_ok10 {n m p q c s : Int} (hn : 0 ≤ n ∧ n < 56) (hm : 0 ≤ m ∧ m < 56) (hp : -8 ≤ p ∧ p ≤ 8) (hq : -8 ≤ q ∧ q ≤ 8) (hc : -4 ≤ c ∧ c ≤ 4) (hs : 1 ≤ s ∧ s ≤ 4) : Here10 (Pt.of n m p q (2 * c) (4 * s)) :=
  ⟨⟨by show -112 ≤ n; omega, by show n < 248; omega, by show -112 ≤ m; omega, by show m < 248; omega, hp.1, hp.2, hq.1, hq.2, by show -16 ≤ 2 * c; omega, by show 2 * c ≤ 16; omega, by show 2 ≤ 4 * s; omega, by show 4 * s ≤ 16; omega, dy_e8' (by omega) (by omega), dy_e8' (by omega) (by omega)⟩, hn.1, hn.2, hm.1, hm.2⟩

set_option maxHeartbeats 2000000 in
set_option maxRecDepth 100000 in
theorem sB10Cloud_any (c : Value) (bs : List Int) (w : World) (hc : NS .u8 w c bs) :
    Calls Try.prog 24 #[c] w fun e w' => ∃ (a b : Int) (v : Value) (ts : List Pt) (M C : Int), 4 ≤ a ∧ a ≤ 7 ∧ 4 ≤ b ∧ b ≤ 6 ∧ ts.length ≤ 6 ∧ (∀ t ∈ ts, Here10 t) ∧ -8 ≤ M ∧ M ≤ 8 ∧ -2 ≤ C ∧ C ≤ 2 ∧ e = .returned (CG a b v (E8 M) (E8 C)) ∧ POwn w.heap.size w' v ts ∧ Below w.heap.size w w' := by
  have hb0 := (Below.refl w.heap.size w).alloc (Nat.le_refl _) (.cells (CC 0 0 (.slice none 0 0) 0) 48)
  have hz0 := heap_alloc_new w (.cells (CC 0 0 (.slice none 0 0) 0) 48)
  have hc0 := hc.below hb0
  go_enter Try.func24, Try.ntmps24
  go_wp2_with fail
  generalize w.alloc (.cells (CC 0 0 (.slice none 0 0) 0) 48) = w0 at hb0 hz0 hc0 ⊢
  have HB0 := Lib.hid hb0; have HZ0 := Lib.hid hz0; have HC := Lib.hid hc0
  clear hb0 hz0 hc0 hc
  refine (sFrom_src c bs _ HC.out).mono ?_
  rintro e w1 ⟨g, rfl, S1⟩
  have HS1 := Lib.hid S1
  clear S1
  go_wp2_with fail
  refine (sDrawGrid_any w0 g 0 c bs _ HC.out (by omega) HS1.out).mono ?_
  rintro e w2 ⟨a, b, k2, ha, ha', hb, hb', hk2, rfl, S2, G2⟩
  have HS2 := Lib.hid S2
  have HAB := Lib.hid (And.intro (And.intro ha ha') (And.intro hb hb'))
  clear S2 G2 HS1 ha ha' hb hb'
  have hA := Lib.hid (show CB w0 g w2.heap.size (w2.heap.size + 1) c a b 0 0 k2 w2.heap.size 0 [] ((w2.alloc (.cells #[] 57)).alloc (.cells (CGc a b (.slice (some ⟨w2.heap.size, 0, none⟩) 0 0) 0 0) 48)) from by
    have h1 := (Below.refl w2.heap.size w2).alloc (Nat.le_refl _) (.cells #[] 57)
    have h2 := h1.alloc h1.size (.cells (CGc a b (.slice (some ⟨w2.heap.size, 0, none⟩) 0 0) 0 0) 48)
    refine ⟨HS2.out.below h2, r4_below (r4_start w2.heap.size w2 (Nat.le_refl _)) ((Below.refl _ _).alloc (Nat.le_refl _) _), ?_, HS2.out.lt, Nat.le_succ _, by omega, h2.size⟩
    have := heap_alloc_new (w2.alloc (.cells #[] 57)) (.cells (CGc a b (.slice (some ⟨w2.heap.size, 0, none⟩) 0 0) 0 0) 48)
    simpa using this)
  go_wp2_with fail
  generalize (w2.alloc (.cells #[] 57)).alloc (.cells (CGc a b (.slice (some ⟨w2.heap.size, 0, none⟩) 0 0) 0 0) 48) = w3 at hA ⊢
  generalize w2.heap.size = B at hA ⊢
  clear HS2
  refine (sPick_any w0 g k2 c bs 7 _ HC.out (by omega) (by omega) (by omega) hA.out.src).mono ?_
  rintro e w4 ⟨N, k4, hn0, hn1, hk4, rfl, S4, G4⟩
  have HA4 := Lib.hid (hA.out.pick S4 G4)
  clear S4 G4 hA
  go_wp2_with fail
  go_loopw [5] (fun n wr => ∃ (ts : List Pt) (M k gv cap : Nat), n = .int .i64 (M : Int) ∧ ts.length + M ≤ 6 ∧ k + 12 * M ≤ 100 ∧ Hid (∀ t ∈ ts, Here10 t) ∧ Hid (CB w0 g B (B + 1) c a b 0 0 k gv cap ts wr)) (fun n _ => (intOf n).toNat)
  case atStart => exact ⟨[], N.toNat, k4, B, 0, by rw [show ((N.toNat : Nat) : Int) = N by omega], by simp; omega, by omega, Lib.hid (fun t ht => by cases ht), HA4⟩
  case round =>
    clear HA4 hk4 hk2
    obtain ⟨ts, M, k, gv, cap, rfl, hl, hk, HT, HA⟩ := hrel
    by_cases hM : 0 < M
    · have HM := Lib.hid hM
      obtain ⟨⟨b0, b1, b2, b3, b4⟩, fz⟩ := HA.out.cells
      go_upto_region 6 with fail
      refine wp_region_noPanic ?_
      refine region_runB_drew (S := fun W => W.cell? ⟨B + 1, 2, none⟩ = some (.slice (some ⟨gv, 0, none⟩) ts.length cap)) (by kernel_rfl) b2 (fun hHeld => ?_)
      have HA1 := Lib.hid (HA.out.step ((Below.refl wr.heap.size wr).drew))
      generalize wr.drew = v0 at HA1 hHeld ⊢
      clear b0 b1 b2 b3 b4 fz HA
      ((refine runB_take (i := 0) (v := ?_) rfl (by kernel_rfl) (by kernel_rfl) (by kernel_rfl) (by kernel_rfl) (fun _ _ _ h => h) (Or.inl ⟨by rfl, ?_⟩) (by assumption) ?_; rotate_left; (· intro w hSw; (try dsimp only at hSw); go_simp; first | done | with_reducible rfl); (try simp only [List.getElem_toArray, List.getElem_cons_zero, List.getElem_cons_succ, Act.put, List.setIfInBounds_toArray, List.set_cons_zero, List.set_cons_succ])); (refine runB_take (i := 1) (v := ?_) rfl (by kernel_rfl) (by kernel_rfl) (by kernel_rfl) (by kernel_rfl) (fun _ _ _ h => h) (Or.inl ⟨by rfl, ?_⟩) (by assumption) ?_; rotate_left; (· intro w hSw; (try dsimp only at hSw); go_simp; first | done | with_reducible rfl); (try simp only [List.getElem_toArray, List.getElem_cons_zero, List.getElem_cons_succ, Act.put, List.setIfInBounds_toArray, List.set_cons_zero, List.set_cons_succ])); (refine runB_take (i := 2) (v := ?_) rfl (by kernel_rfl) (by kernel_rfl) (by kernel_rfl) (by kernel_rfl) (fun _ _ _ h => h) (Or.inl ⟨by rfl, ?_⟩) (by assumption) ?_; rotate_left; (· intro w hSw; (try dsimp only at hSw); go_simp; first | done | with_reducible rfl); (try simp only [List.getElem_toArray, List.getElem_cons_zero, List.getElem_cons_succ, Act.put, List.setIfInBounds_toArray, List.set_cons_zero, List.set_cons_succ])))
      (refine runB_next (rs := [3]) (by kernel_rfl) (by simp) ?_; refine NextB.cons (i := 3) rfl (fun K hK => ?_) NextB.nil)
      go_simp
      refine (sB10One_any w0 g k c bs _ HC.out (by omega) HA1.out.src).mono ?_
      rintro e v1 ⟨n, m, p, q, ch, ms, k5, hbd, hk5, rfl, S5, G5⟩
      have HA2 := Lib.hid (HA1.out.pick S5 G5)
      have HN := Lib.hid (of_ok10 (n := n) (m := m) (p := p) (q := q) (c := ch) (s := ms) (by omega) (by omega) (by omega) (by omega) (by omega) (by omega))
      have e1 : (PV n m p q (2 * ch) (4 * ms)) = .agg #[.complex .f32 (E8 (Pt.of n m p q (2 * ch) (4 * ms)).n) (E8 (Pt.of n m p q (2 * ch) (4 * ms)).m), .complex .f32 (Pt.of n m p q (2 * ch) (4 * ms)).x (Pt.of n m p q (2 * ch) (4 * ms)).y, .float .f32 (E8 (Pt.of n m p q (2 * ch) (4 * ms)).c), .float .f32 (E8 (Pt.of n m p q (2 * ch) (4 * ms)).s)] := rfl
      rw [e1]
      clear S5 G5 HA1 hbd e1
      generalize Pt.of n m p q (2 * ch) (4 * ms) = t at HN ⊢
      go_wp2_with fail
      (refine hK.out _ _ (fun _ => HA2.out.cells.1.2.2.1) ?_; clear hK K; (try simp only [List.getElem_toArray, List.getElem_cons_zero, List.getElem_cons_succ, Act.put, List.setIfInBounds_toArray, List.set_cons_zero, List.set_cons_succ]))
      (refine runB_next (rs := [4]) (by kernel_rfl) (by simp) ?_; refine NextB.cons (i := 4) rfl (fun K hK => ?_) NextB.nil)
      go_simp
      have hX3 := heap_alloc_new v1 (.cells #[.complex .f32 (E8 t.n) (E8 t.m), .complex .f32 t.x t.y, .float .f32 (E8 t.c), .float .f32 (E8 t.s)] 57)
      have HA3 := Lib.hid (HA2.out.step ((Below.refl v1.heap.size v1).alloc (Nat.le_refl _) (.cells #[.complex .f32 (E8 t.n) (E8 t.m), .complex .f32 t.x t.y, .float .f32 (E8 t.c), .float .f32 (E8 t.s)] 57)))
      have hne3 : B + 1 ≠ v1.heap.size := by have := HA2.out.lt; omega
      (refine hK.out _ _ (fun _ => HA3.out.cells.1.2.2.1) ?_; clear hK K; (try simp only [List.getElem_toArray, List.getElem_cons_zero, List.getElem_cons_succ, Act.put, List.setIfInBounds_toArray, List.set_cons_zero, List.set_cons_succ]))
      have HNE := Lib.hid hne3
      generalize v1.alloc (.cells #[.complex .f32 (E8 t.n) (E8 t.m), .complex .f32 t.x t.y, .float .f32 (E8 t.c), .float .f32 (E8 t.s)] 57) = v2 at hX3 HA3 hHeld ⊢
      generalize v1.heap.size = pb at hX3 HNE ⊢
      clear HA2 hne3
      (refine runB_next (rs := [5]) (by kernel_rfl) (by simp) ?_; refine NextB.cons (i := 5) rfl (fun K hK => ?_) NextB.nil)
      refine hstep_app4 rfl _ _ rfl B (.slice (some ⟨gv, 0, none⟩) ts.length cap) ts.length (ts.map Pt.r4) rfl HA3.out.own (by rw [List.length_map]) pb 1 rfl (.complex .f32 (E8 t.n) (E8 t.m)) (.complex .f32 t.x t.y) (.float .f32 (E8 t.c)) (.float .f32 (E8 t.s)) hX3 rfl rfl rfl rfl (by omega) HA3.out.zB ?_
      intro g' cap' v3 hown hgrow hor
      have hn5 : B + 1 ≠ g' := by
        rcases hor with h | h
        · have h1 := HA3.out.ne; have h2 := Option.some.inj (show some gv = some g' from h); omega
        · have := HA3.out.lt; omega
      have hk5c := HA3.out.keep hgrow
      obtain ⟨_, _, r2, _, _⟩ := five_cells hk5c
      have rf : v3.frozen? ⟨B + 1, 2, none⟩ = false := by simp [World.frozen?, hk5c]
      have HA5 := Lib.hid (HA3.out.next (t := t) hown hgrow hn5)
      (refine hK.out _ _ (fun _ => r2) ?_; clear hK K; (try simp only [List.getElem_toArray, List.getElem_cons_zero, List.getElem_cons_succ, Act.put, List.setIfInBounds_toArray, List.set_cons_zero, List.set_cons_succ]))
      ((refine runB_take (i := 6) (v := ?_) rfl (by kernel_rfl) (by kernel_rfl) (by kernel_rfl) (by kernel_rfl) (fun _ _ _ h => h) (Or.inl ⟨by rfl, ?_⟩) (by assumption) ?_; rotate_left; (· intro w hSw; (try dsimp only at hSw); go_simp; first | done | with_reducible rfl); (try simp only [List.getElem_toArray, List.getElem_cons_zero, List.getElem_cons_succ, Act.put, List.setIfInBounds_toArray, List.set_cons_zero, List.set_cons_succ])))
      (refine runB_next (rs := [7]) (by kernel_rfl) (by simp) ?_; refine NextB.cons (i := 7) rfl (fun K hK => ?_) NextB.nil)
      go_simp
      (refine hK.out _ _ (no_due (by kernel_rfl) _) ?_; clear hK K; (try simp only [List.getElem_toArray, List.getElem_cons_zero, List.getElem_cons_succ, Act.put, List.setIfInBounds_toArray, List.set_cons_zero, List.set_cons_succ]))
      (refine runB_done (by kernel_rfl) ?_ _; refine NoPanic.normal ?_)
      clear hHeld hown hgrow hor hn5 hk5c r2 rf HA3 hX3 HNE
      have HT5 := Lib.hid (show ∀ u ∈ ts ++ [t], Here10 u from fun u hu => by
        rcases List.mem_append.1 hu with h | h
        · exact HT.out u h
        · rw [List.mem_singleton.1 h]; exact HN.out)
      go_wp2_with fail
      go_roundw
      case rel => exact ⟨ts ++ [t], M - 1, k5, g', cap', by have := HM.out; rw [Int.natCast_sub (by omega)]; go_num, by rw [List.length_append, List.length_singleton]; have := HM.out; omega, by have := HM.out; omega, HT5, HA5⟩
      case measure => simp [intOf]; have := HM.out; omega
    · obtain rfl : M = 0 := by omega
      clear hM
      go_wp2_with fail
      refine (sPick_any w0 g k c bs 9 _ HC.out (by omega) (by omega) (by omega) HA.out.src).mono ?_
      rintro e w6 ⟨X, k6, hx0, hx1, hk6, rfl, S6, G6⟩
      have HA6 := Lib.hid (HA.out.pick S6 G6)
      have i1 := is_int32 (X - 4) (by omega) (by omega)
      have hw1 : wrap64 (X - 4) = X - 4 := wrap64_of (by omega) (by omega)
      have HE := Lib.hid (fun (r : Nat) (h : Is .f32 r (fop .quo .f32 (floatOfInt .f32 (X - 4)) 1082130432)) => (show r = E8 (2 * (X - 4)) from by rw [(half_b10 X hx0 hx1).1] at h; exact e8_of_is (by omega) (by omega) h))
      have HXX := Lib.hid (And.intro hx0 hx1)
      clear S6 G6 hx0 hx1
      obtain ⟨⟨b0, b1, b2, b3, b4⟩, fz⟩ := HA6.out.cells
      have fz3 := fz 3
      clear fz
      go_wp2_with ((apply wpList_farith; rfl; rfl; rfl; rfl; (first | with_reducible assumption | exact Is.const rfl); (first | with_reducible assumption | exact Is.const rfl); intro r n hr); with_reducible have e0 := HE.out _ hr; subst e0)
      have HA7 := Lib.hid ((HA6.out.step (below_drewN (Below.refl w6.heap.size w6) n)).setM (E8 (2 * (X - 4))))
      clear b0 b1 b2 b3 b4 fz3 hw1 i1 HA6 HE
      generalize (w6.drewN n).setCell ⟨B + 1, 3, none⟩ (.float .f32 (E8 (2 * (X - 4)))) = w7 at HA7 ⊢
      refine (sPick_any w0 g k6 c bs 5 _ HC.out (by omega) (by omega) (by omega) HA7.out.src).mono ?_
      rintro e w8 ⟨Y, k8, hy0, hy1, hk8, rfl, S8, G8⟩
      have HA8 := Lib.hid (HA7.out.pick S8 G8)
      have i1 := is_int32 (Y - 2) (by omega) (by omega)
      have hw1 : wrap64 (Y - 2) = Y - 2 := wrap64_of (by omega) (by omega)
      have HE := Lib.hid (fun (r : Nat) (h : Is .f32 r (fop .quo .f32 (floatOfInt .f32 (Y - 2)) 1090519040)) => e8_int (by omega) (by omega) h)
      have HYY := Lib.hid (And.intro hy0 hy1)
      clear S8 G8 hy0 hy1 HA7
      obtain ⟨⟨b0, b1, b2, b3, b4⟩, fz⟩ := HA8.out.cells
      have fz4 := fz 4
      clear fz
      have HA9 := Lib.hid (fun n => (HA8.out.step (below_drewN (Below.refl w8.heap.size w8) n)).setK (E8 (Y - 2)))
      have HR9 := Lib.hid (fun n => show ((w8.drewN n).setCell ⟨B + 1, 4, none⟩ (.float .f32 (E8 (Y - 2)))).heap[w.heap.size]? = some (.cells (CC 0 0 (.slice none 0 0) 0) 48) from ((HA9.out n).src.1.block w.heap.size (Array.getElem?_eq_some_iff.1 HZ0.out).1).trans HZ0.out)
      go_wp2_with (first
        | ((with_reducible show wpList _ _ _ (Oper.mk (some 37) _ _ _ _ _ :: _) _ _); refine wpList_load_row rfl 48 _ rfl (B + 1) rfl 48 (CGc a b (.slice (some ⟨gv, 0, none⟩) ts.length cap) (E8 (2 * (X - 4))) (E8 (Y - 2))) (0, 0) _ (HA9.out _).box Try.underlying48 rfl info_cloud ?_)
        | ((with_reducible show wpList _ _ _ (Oper.mk none (Op.store _ (Operand.tmp 2) _) _ _ _ _ :: _) _ _); refine wpList_store_row rfl 48 _ _ rfl w.heap.size (CGc a b (.slice (some ⟨gv, 0, none⟩) ts.length cap) (E8 (2 * (X - 4))) (E8 (Y - 2))) rfl rfl 48 _ (HR9.out _) info_cloud rfl (one5 _ _ _ _ _ _ _) ?_)
        | ((apply wpList_farith; rfl; rfl; rfl; rfl; (first | with_reducible assumption | exact Is.const rfl); (first | with_reducible assumption | exact Is.const rfl); intro r n hr); with_reducible have e0 := HE.out _ hr; subst e0))
      refine bodyPost_ret (v := CG a b (.slice (some ⟨gv, 0, none⟩) ts.length cap) (E8 (2 * (X - 4))) (E8 (Y - 2))) ?_ rfl ?_
      · rw [results_cell_row rfl _ _ w.heap.size 48 (CGc a b (.slice (some ⟨gv, 0, none⟩) ts.length cap) (E8 (2 * (X - 4))) (E8 (Y - 2))) (0, 0) _ rfl (setRow_heap _ _ _ _ _ _ (HR9.out _)) Try.underlying48 rfl info_cloud]
      · have h1 := HAB.out; have h2 := HXX.out; have h3 := HYY.out
        refine ⟨a, b, _, ts, 2 * (X - 4), Y - 2, h1.1.1, h1.1.2, h1.2.1, h1.2.2, by omega, HT.out, by omega, by omega, by omega, by omega, rfl, ?_, ?_⟩
        · refine Go.Joins.ownsRow_le (own_row (HA9.out _).own (by have h4 := (HA9.out 0).gB; have h5 := HA8.out.src.2.1; have h6 := (Array.getElem?_eq_some_iff.1 HZ0.out).1; omega) _) (by have h4 := (HA9.out 0).gB; have h5 := HA8.out.src.2.1; have h6 := HB0.out.size; omega)
        · exact below_setRow (HB0.out.trans ((HA9.out _).src.1.mono HB0.out.size)) (Nat.le_refl _) _
end Go.Proofs.Ytnknhfhllifnhaa
