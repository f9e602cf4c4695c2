/-
  Lists of particles of any finite numbers, of the call's own: their cells; they are valid.
-/
import Derived.Test.YtnknhfhllifnhaaPt
namespace Go.Proofs.Ytnknhfhllifnhaa
open Go.Fl Go.RowKit
set_option linter.unusedSimpArgs false
set_option linter.unusedVariables false

/-- A number's bits that are finite (and so no not-a-number). -/
structure Num (x : Nat) : Prop where
  is : Is .f32 x x
  fn : fin .f32 x = true
/-- A particle by its bits. -/
structure Pq where
  a : Nat
  b : Nat
  x : Nat
  y : Nat
  c : Nat
  s : Nat
structure Pq.ok (t : Pq) : Prop where
  na : Num t.a
  nb : Num t.b
  nx : Num t.x
  ny : Num t.y
  nc : Num t.c
  ns : Num t.s
  ms : fcmp .gtr .f32 t.s 0 = true
def Pq.r4 (t : Pq) : R4 := ⟨.complex .f32 t.a t.b, .complex .f32 t.x t.y, .float .f32 t.c, .float .f32 t.s⟩
def okq (ts : List Pq) : Prop := ∀ t ∈ ts, t.ok
abbrev QOwn (B : Nat) (w : World) (v : Value) (ts : List Pq) : Prop := R4Own B w v (ts.map Pq.r4)
theorem dv_num {u x : Nat} {n : Int} (h : Dv .f32 u x n) : Num x := ⟨h.is, dv_fin h⟩
theorem e8_num {n : Int} (h0 : -112 ≤ n) (h1 : n < 248) : Num (E8 n) := ⟨(is_e8 n h0 h1).1, (is_e8 n h0 h1).2⟩
/-- The particle in eighths by its bits. -/
def Pt.pq (t : Pt) : Pq := ⟨E8 t.n, E8 t.m, t.x, t.y, E8 t.c, E8 t.s⟩
theorem pq_r4 (t : Pt) : t.pq.r4 = t.r4 := rfl
theorem Pt.ok.pq {t : Pt} (h : t.ok) : t.pq.ok :=
  ⟨e8_num h.n0 h.n1, e8_num h.m0 h.m1, dv_num h.dx, dv_num h.dy, e8_num (by have := h.c0; omega) (by have := h.c1; omega), e8_num (by have := h.s0; omega) (by have := h.s1; omega), mass_pos h.s0 h.s1⟩
theorem oks_pq {ts : List Pt} (h : oks ts) : okq (ts.map Pt.pq) := by
  intro t ht
  obtain ⟨u, hu, rfl⟩ := List.mem_map.1 ht
  exact (h u hu).pq
theorem own_pq {B : Nat} {w : World} {v : Value} {ts : List Pt} (h : POwn B w v ts) : QOwn B w v (ts.map Pt.pq) := by
  unfold QOwn; rw [List.map_map, show Pq.r4 ∘ Pt.pq = Pt.r4 from funext pq_r4]; exact h
theorem q_form {B : Nat} {w : World} {v : Value} {xs : List Pq} (h : QOwn B w v xs) : ∃ a cap, v = .slice a xs.length cap ∧ (xs = [] ∨ ∃ g, a = some ⟨g, 0, none⟩ ∧ B ≤ g ∧ g < w.heap.size) := by
  obtain ⟨a, cap, e, hf⟩ := r4_form h
  rw [List.length_map] at e
  rw [List.map_eq_nil_iff] at hf
  exact ⟨a, cap, e, hf⟩
theorem q_at {B : Nat} {w : World} {g n cap : Nat} {xs : List Pq} (h : QOwn B w (.slice (some ⟨g, 0, none⟩) n cap) xs) {k : Nat} (hk : k < xs.length) : w.rangeAt g (4 * k) [.complex .f32 xs[k].a xs[k].b, .complex .f32 xs[k].x xs[k].y, .float .f32 xs[k].c, .float .f32 xs[k].s] := by
  have := r4_at h (k := k) (by simpa using hk)
  simpa [Pq.r4] using this
theorem q_cells {B : Nat} {w : World} {g n cap : Nat} {xs : List Pq} (h : QOwn B w (.slice (some ⟨g, 0, none⟩) n cap) xs) {k : Nat} (hk : k < xs.length) :
    w.cell? ⟨g, k * 4, none⟩ = some (.complex .f32 xs[k].a xs[k].b) ∧ w.cell? ⟨g, k * 4 + 1, none⟩ = some (.complex .f32 xs[k].x xs[k].y) ∧ w.cell? ⟨g, k * 4 + 2, none⟩ = some (.float .f32 xs[k].c) ∧ w.cell? ⟨g, k * 4 + 3, none⟩ = some (.float .f32 xs[k].s) := by
  have hr := q_at h hk
  rw [Nat.mul_comm 4 k] at hr
  exact ⟨hr 0 _ rfl, hr 1 _ rfl, hr 2 _ rfl, hr 3 _ rfl⟩
theorem okq_at {xs : List Pq} (h : okq xs) {k : Nat} (hk : k < xs.length) : xs[k].ok := h _ (List.getElem_mem hk)

set_option maxHeartbeats 1000000 in
theorem iValid_pq (t : Pq) (h : t.ok) (w : World) : Calls Try.prog 89 #[t.r4.val] w fun e w' => e = .returned (.bool true) ∧ Below w.heap.size w w' := by
  have HT := Lib.hid h
  have HB0 := Lib.hid ((Below.refl w.heap.size w).alloc (Nat.le_refl _) (.cells #[.complex .f32 t.a t.b, .complex .f32 t.x t.y, .float .f32 t.c, .float .f32 t.s] 57))
  have HZ := Lib.hid (heap_alloc_new w (.cells #[.complex .f32 t.a t.b, .complex .f32 t.x t.y, .float .f32 t.c, .float .f32 t.s] 57))
  have hmp := h.ms
  clear h
  unfold R4.val Pq.r4
  go_enter Try.func89, Try.ntmps89
  go_wp2_with fail
  refine (iFiniteC_fin _ _ HT.out.na.is HT.out.nb.is HT.out.na.fn HT.out.nb.fn _).mono ?_
  rintro e w1 ⟨rfl, k1, rfl⟩
  go_wp2_with fail
  refine (iFiniteC_fin _ _ HT.out.nx.is HT.out.ny.is HT.out.nx.fn HT.out.ny.fn _).mono ?_
  rintro e w2 ⟨rfl, k2, rfl⟩
  go_wp2_with fail
  refine (iFinite3_any _ _ HT.out.nc.is _).mono ?_
  rintro e w3 ⟨rfl, k3, rfl⟩
  rw [HT.out.nc.fn]
  go_wp2_with fail
  refine (iFinite3_any _ _ HT.out.ns.is _).mono ?_
  rintro e w4 ⟨rfl, k4, rfl⟩
  rw [HT.out.ns.fn]
  have i5 := HT.out.ns.is
  go_wp2_with (apply wpList_fcmp; rfl; rfl; rfl; rfl; (first | with_reducible assumption | exact Is.const rfl); (first | with_reducible assumption | exact Is.const rfl); (first | with_reducible assumption | exact rfl))
  go_ret
  exact ⟨rfl, below_drewN HB0.out _⟩

set_option maxHeartbeats 1000000 in
theorem iAre_pq (B : Nat) (v : Value) (ts : List Pq) (w : World) (hv : QOwn B w v ts) (h : okq ts) (hn : ts.length ≤ 64) : Calls Try.prog 22 #[v] w fun e w' => e = .returned (.bool true) ∧ Below w.heap.size w w' := by
  obtain ⟨a, cap, rfl, hf⟩ := q_form hv
  have HV := Lib.hid hv; have HO := Lib.hid h
  clear hv h
  go_enter Try.func22, Try.ntmps22
  go_wp2
  go_loopw [10] (fun i wr => ∃ k : Nat, k ≤ ts.length ∧ i = .int .i64 k ∧ Below w.heap.size w wr) (fun i _ => ts.length - (intOf i).toNat)
  case atStart => exact ⟨0, Nat.zero_le _, rfl, Below.refl _ _⟩
  case round =>
    obtain ⟨k, hk, rfl, hb⟩ := hrel
    by_cases hlt : k < ts.length
    · rcases hf with hf | ⟨g, rfl, _, _⟩
      · subst hf; simp at hlt
      obtain ⟨c0, c1, c2, c3⟩ := q_cells (r4_below HV.out hb) hlt
      have HT := Lib.hid (okq_at HO.out hlt)
      generalize ts[k] = t at c0 c1 c2 c3 HT
      have HB1 := Lib.hid (hb.alloc hb.size (.cells #[.complex .f32 t.a t.b, .complex .f32 t.x t.y, .float .f32 t.c, .float .f32 t.s] 57))
      clear hb
      go_wp2_with fail
      refine (iValid_pq t HT.out _).mono ?_
      rintro e w2 ⟨rfl, h2⟩
      have HB2 := Lib.hid (HB1.out.trans (h2.mono HB1.out.size))
      clear h2 c0 c1 c2 c3
      go_wp2_with fail
      go_roundw
      case rel => exact ⟨k + 1, by omega, by go_num, HB2.out⟩
      case measure => simp [intOf]; omega
    · obtain rfl : k = ts.length := by omega
      clear hlt
      go_wp2
      go_ret
      exact ⟨rfl, hb⟩
end Go.Proofs.Ytnknhfhllifnhaa
