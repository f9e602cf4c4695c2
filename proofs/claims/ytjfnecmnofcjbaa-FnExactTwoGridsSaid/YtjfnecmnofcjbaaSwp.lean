/-
  Sweeps: the points of a colour in some rows, of the program.
-/
import Derived.Test.YtjfnecmnofcjbaaSwpM
import Derived.WalkMore
namespace Go.Proofs.Ytjfnecmnofcjbaa
open Go.Fl Go.RowKit
open Go.Shelf
open Go.Joins (ownsRow_le)
set_option linter.unusedSimpArgs false
set_option linter.unusedVariables false
attribute [local go_sem] Oper.semAt_some

/-- Frames meet: the unknown slots are what the frame holds. -/
theorem meet_of {l : List Value} {d : List Deferred} {mk : (Nat → Value) → Value → List Value} {P : (Nat → Value) → Value → List Deferred → Prop} (hl : l = mk (fun i => l.getD i undef) (l.getD 8 undef)) (h : P (fun i => l.getD i undef) (l.getD 8 undef) d) :
    ∃ us v8 dl, P us v8 dl ∧ Act.mk l.toArray d = Act.mk (mk us v8).toArray dl := ⟨_, _, _, h, by rw [← hl]⟩
theorem meas_down {l l' : List Value} {n k : Nat} {x : Int} (h : l.toArray.getD 8 undef = .int .i64 x) (h' : l'.toArray.getD 8 undef = .int .i64 (k : Int)) (hx : x = (k : Int) + 1) (hk : k < n) : n - (intOf (l.toArray.getD 8 undef)).toNat < n - (intOf (l'.toArray.getD 8 undef)).toNat := by
  rw [h, h', hx]; simp only [intOf]; omega
/-- The marks that loops over an iterator leave among the deferred calls are taken up, one by one. -/
abbrev marksOf (ds : List Nat) : List Deferred := ds.map fun D => { target := .collected D, args := #[] }
theorem leaves_marks {F : Fence} {n : Nat} {P : Program} {fn : Func} {tmps : Array Value} {R : Ending → World → Prop} (v : Value) (row : Option Nat) (w0 : World) :
    ∀ (ds : List Nat) (W : World), ds.Nodup → (∀ D ∈ ds, w0.heap.size ≤ D ∧ W.heap[D]? = some (.deferred (some []))) → w0.grownBy W row →
      (∀ W', w0.grownBy W' row → (∀ k, k ∉ ds → W'.heap[k]? = W.heap[k]?) → W'.heap.size = W.heap.size → LeavesInM F n P fn tmps R [] .returning W') →
      LeavesInM F n P fn tmps R (marksOf ds) .returning W := by
  intro ds
  induction ds with
  | nil => intro W _ _ hb h; exact h W hb (fun _ _ => rfl) rfl
  | cons D ds ih =>
    intro W hn hd hb h
    obtain ⟨hD, hW⟩ := hd D (List.mem_cons_self ..)
    have hnd := List.nodup_cons.1 hn
    have hb2 : w0.grownBy (W.putObj D (.deferred none)) row := grown_step hb (grownBy_putObj' W D _) hD
    refine ⟨by simp, .inl ⟨D, _, rfl, run_takeDeferred hW, ?_⟩⟩
    refine ih _ hnd.2 (fun E hE => ⟨(hd E (List.mem_cons_of_mem _ hE)).1, ?_⟩) hb2 (fun W' hb' hk hs => h W' hb' (fun k hkn => ?_) ?_)
    · have hED : E ≠ D := fun e => hnd.1 (by subst e; exact hE)
      rw [World.putObj_heap_other (by first | exact hED | exact hED.symm)]; exact (hd E (List.mem_cons_of_mem _ hE)).2
    · have hkD : k ≠ D := fun e => hkn (by subst e; exact List.mem_cons_self ..)
      rw [hk k (fun h => hkn (List.mem_cons_of_mem _ h)), World.putObj_heap_other (by first | exact hkD | exact hkD.symm)]
    · rw [hs]; simp [World.putObj]

set_option maxHeartbeats 8000000 in
set_option maxRecDepth 100000 in
theorem sweepRows_any (a b c : Int) (gv capv gl capl : Nat) (xs ls : List Nat) (B : Nat) (w : World) (hv : RW B w gv capv xs) (hl : RW B w gl capl ls) (hne : gv ≠ gl) (h1 : fieldOk a b xs.length = true) (hll : ls.length = xs.length) (hwx : ∀ x ∈ xs, x < 2 ^ FloatKind.f32.format.width) (hwl : ∀ x ∈ ls, x < 2 ^ FloatKind.f32.format.width) :
    Calls Try.prog 167 #[BV a b (.slice (some ⟨gv, 0, none⟩) xs.length capv) (.slice (some ⟨gl, 0, none⟩) ls.length capl), .int .i64 c, .int .i64 0, .int .i64 b] w fun e w' => (∃ es, e = .returned (.tuple #[]) ∧ es.length = xs.length ∧ (∀ x ∈ es, x < 2 ^ FloatKind.f32.format.width) ∧ EqOn es (sweepF a b c (fun j => cn .f32 (ls.getD j 0)) (fun j => cn .f32 (xs.getD j 0)) xs.length) 0 xs.length ∧ RW B w' gv capv es ∧ RW B w' gl capl ls) ∧ w.grownBy w' (some gv) := by
  have HA := Lib.hid (fieldOk_true h1)
  rw [hll]
  refine (callsIn_wide (n := 5)).1 ?_
  refine callsIn_of_wp_marks Try.func167 rfl trivial ?_ rfl
  simp only [Try.ntmps167, List.size_toArray, List.length_cons, List.length_nil, Nat.reduceAdd, Nat.reduceSub, Array.replicate_succ, Array.replicate_zero, List.push_toArray, List.append_toArray, List.nil_append, List.cons_append]
  refine wpIn_wide.2 ?_
  go_wp2_with fail
  have hbx := (four_cells (heap_alloc_new w (.cells #[.int .i64 a, .int .i64 b, .slice (some ⟨gv, 0, none⟩) xs.length capv, .slice (some ⟨gl, 0, none⟩) xs.length capl] 108)))
  have k0 := hbx.1
  refine wp_scope_straight ?_
  apply wp_seq_k
  intro K hK
  apply wp_label
  simp only [Exit.then]
  go_wp2_with fail
  have HBX := Lib.hid (heap_alloc_new w (.cells #[.int .i64 a, .int .i64 b, .slice (some ⟨gv, 0, none⟩) xs.length capv, .slice (some ⟨gl, 0, none⟩) xs.length capl] 108))
  have HV0 := Lib.hid (RW.still hv ((Below.refl w.heap.size w).alloc (Nat.le_refl _) (.cells #[.int .i64 a, .int .i64 b, .slice (some ⟨gv, 0, none⟩) xs.length capv, .slice (some ⟨gl, 0, none⟩) xs.length capl] 108)))
  have HL0 := Lib.hid (RW.still hl ((Below.refl w.heap.size w).alloc (Nat.le_refl _) (.cells #[.int .i64 a, .int .i64 b, .slice (some ⟨gv, 0, none⟩) xs.length capv, .slice (some ⟨gl, 0, none⟩) xs.length capl] 108)))
  have HD0 := Lib.hid (grown_below (row := some gv) ((Below.refl w.heap.size w).alloc (Nat.le_refl _) (.cells #[.int .i64 a, .int .i64 b, .slice (some ⟨gv, 0, none⟩) xs.length capv, .slice (some ⟨gl, 0, none⟩) xs.length capl] 108)))
  have HKV := Lib.hid (show gv ≠ w.heap.size from by have := (hv.lt gv rfl).2; omega)
  have HKL := Lib.hid (show gl ≠ w.heap.size from by have := (hl.lt gl rfl).2; omega)
  have HNE := Lib.hid hne
  have HWL := Lib.hid hwl
  have HE0 := Lib.hid (show EqOn xs (sweepF a b c (fun j => cn .f32 (ls.getD j 0)) (fun j => cn .f32 (xs.getD j 0)) 0) 0 xs.length from fun q _ hq => FS.is hwx q hq)
  have HLL := Lib.hid hll
  clear hbx k0 hv hl hne hwl h1 hll
  generalize w.alloc (.cells #[.int .i64 a, .int .i64 b, .slice (some ⟨gv, 0, none⟩) xs.length capv, .slice (some ⟨gl, 0, none⟩) xs.length capl] 108) = w1 at HBX HV0 HL0 HD0 ⊢
  generalize hkb : w.heap.size = kb at HBX HKV HKL ⊢
  have HKS := Lib.hid hkb
  clear hkb
  refine wp_loop (fun a' W => ∃ us : Nat → Value, ∃ v8 : Value, ∃ dl : List Deferred, (∃ (k : Nat) (es ds : List Nat), v8 = .int .i64 (k : Int) ∧ dl = marksOf ds ∧ k ≤ xs.length ∧ Hid (es.length = xs.length) ∧ Hid (∀ x ∈ es, x < 2 ^ FloatKind.f32.format.width) ∧ Hid (EqOn es (sweepF a b c (fun j => cn .f32 (ls.getD j 0)) (fun j => cn .f32 (xs.getD j 0)) k) 0 xs.length) ∧ Hid (RW B W gv capv es) ∧ Hid (RW B W gl capl ls) ∧ Hid ds.Nodup ∧ Hid (∀ D ∈ ds, w.heap.size ≤ D ∧ W.heap[D]? = some (.deferred (some []))) ∧ Hid (w.grownBy W (some gv)) ∧ Hid (W.heap[kb]? = some (.cells #[.int .i64 a, .int .i64 b, .slice (some ⟨gv, 0, none⟩) xs.length capv, .slice (some ⟨gl, 0, none⟩) xs.length capl] 108))) ∧ a' = Act.mk (List.toArray [BV a b (.slice (some ⟨gv, 0, none⟩) xs.length capv) (.slice (some ⟨gl, 0, none⟩) xs.length capl), .int .i64 c, .int .i64 0, .int .i64 b, .pointer (some ⟨kb, 0, none⟩), undef, undef, undef, v8, us 9, us 10, us 11, us 12, .int .i64 0, .pointer (some ⟨kb, 0, none⟩), .pointer (some ⟨kb, 0, none⟩), .int .i64 a, .int .i64 0, us 18, us 19, us 20, us 21, us 22, us 23, us 24, us 25, us 26, us 27, us 28, us 29, us 30, us 31, us 32, us 33, us 34, us 35, us 36, us 37, us 38, us 39, us 40, us 41, us 42, us 43, us 44, us 45, us 46, us 47, us 48, us 49, us 50, us 51, us 52, us 53, us 54, us 55, us 56, us 57, us 58, us 59, us 60, us 61, us 62, us 63, us 64]) dl) (fun a' _ => xs.length - (intOf (a'.tmps.getD 8 undef)).toNat) ?_ ?_
  · refine meet_of (by rfl) ?_
    exact ⟨0, xs, [], rfl, rfl, Nat.zero_le _, Lib.hid rfl, Lib.hid hwx, HE0, HV0, HL0, Lib.hid List.nodup_nil, Lib.hid (fun D h => absurd h (List.not_mem_nil)), HD0, HBX⟩
  · clear HBX HV0 HL0 HD0 HE0
    rintro _ W ⟨us, v8, dl, ⟨k, es, ds, rfl, rfl, hk, HEL, HEW, HE, HV, HL, HN, HM, HD, HX⟩, rfl⟩
    try dsimp only
    have hel := HEL.out
    have cc := four_cells HX.out
    have k0 := cc.1
    have k1 := cc.2.1
    have k2 := cc.2.2.1
    have k3 := cc.2.2.2.1
    clear cc
    have hwn : wrap64 (b * a) = (xs.length : Int) := by
      have h := HA.out
      have h2 : b * a = (xs.length : Int) := by rw [Int.mul_comm]; exact h.2.2.2.2.1.symm
      rw [h2]; exact wrap64_of (by omega) (by omega)
    by_cases hlt : k < xs.length
    · obtain ⟨u, v, t, hu, hv, ht, hu1, hv0, hult, hvb, hiu, ha0, hm1, hd1, hw1, hw2, hw3, hs2, hs3, hwk, iK0, iK1⟩ := point_facts (And.intro HA.out.1 (And.intro HA.out.2.1 (And.intro HA.out.2.2.1 HA.out.2.2.2.1))) HA.out.2.2.2.2.1 HA.out.2.2.2.2.2 hlt
      have hH : isHit a c k = decide ((t : Int) = c) := by unfold isHit; rw [hu, hv, ht]
      have HUV := Lib.hid (And.intro hu hv)
      have HIU := Lib.hid hiu
      have HB1 := Lib.hid (And.intro hult hvb)
      clear hu hv hiu hvb hult ht
      go_wp2_with fail
      refine wp_region_noPanic ?_
      refine wp_region_held_drew (S := fun w' => w'.cell? ⟨kb, 0, none⟩ = some (.int .i64 a)) (by kernel_rfl) k0 (fun hHeld => ?_)
      have HV1 : Hid (RW B W.drew gv capv es) := Lib.hid HV.out
      have HL1 : Hid (RW B W.drew gl capl ls) := Lib.hid HL.out
      have HM1 : Hid (∀ D ∈ ds, w.heap.size ≤ D ∧ W.drew.heap[D]? = some (.deferred (some []))) := Lib.hid HM.out
      have HX1 : Hid (W.drew.heap[kb]? = some (.cells #[.int .i64 a, .int .i64 b, .slice (some ⟨gv, 0, none⟩) xs.length capv, .slice (some ⟨gl, 0, none⟩) xs.length capl] 108)) := Lib.hid HX.out
      have HD1 := Lib.hid (grown_drew HD.out)
      clear HV HL HM HX HD k0 k1 k2 k3
      generalize W.drew = W1 at HV1 HL1 HM1 HX1 HD1 hHeld ⊢
      ((refine wpAnyH_take (i := 0) (v := ?_) rfl (by kernel_rfl) (by kernel_rfl) (by kernel_rfl) (fun _ _ _ h => h) (Or.inl ⟨by rfl, ?_⟩) (by assumption) ?_; rotate_left; (· intro w hSw; (try dsimp only at hSw); go_simp; first | done | with_reducible rfl); (try simp only [List.getElem_toArray, List.getElem_cons_zero, List.getElem_cons_succ, Act.put, List.setIfInBounds_toArray, List.set_cons_zero, List.set_cons_succ])); (refine wpAnyH_take (i := 1) (v := ?_) rfl (by kernel_rfl) (by kernel_rfl) (by kernel_rfl) (fun _ _ _ h => h) (Or.inl ⟨by rfl, ?_⟩) (by assumption) ?_; rotate_left; (· intro w hSw; (try dsimp only at hSw); go_simp; first | done | with_reducible rfl); (try simp only [List.getElem_toArray, List.getElem_cons_zero, List.getElem_cons_succ, Act.put, List.setIfInBounds_toArray, List.set_cons_zero, List.set_cons_succ])); (refine wpAnyH_take (i := 2) (v := ?_) rfl (by kernel_rfl) (by kernel_rfl) (by kernel_rfl) (fun _ _ _ h => h) (Or.inl ⟨by rfl, ?_⟩) (by assumption) ?_; rotate_left; (· intro w hSw; (try dsimp only at hSw); go_simp; first | done | with_reducible rfl); (try simp only [List.getElem_toArray, List.getElem_cons_zero, List.getElem_cons_succ, Act.put, List.setIfInBounds_toArray, List.set_cons_zero, List.set_cons_succ])); (refine wpAnyH_take (i := 3) (v := ?_) rfl (by kernel_rfl) (by kernel_rfl) (by kernel_rfl) (fun _ _ _ h => h) (Or.inl ⟨by rfl, ?_⟩) (by assumption) ?_; rotate_left; (· intro w hSw; (try dsimp only at hSw); go_simp; first | done | with_reducible rfl); (try simp only [List.getElem_toArray, List.getElem_cons_zero, List.getElem_cons_succ, Act.put, List.setIfInBounds_toArray, List.set_cons_zero, List.set_cons_succ])); (refine wpAnyH_take (i := 4) (v := ?_) rfl (by kernel_rfl) (by kernel_rfl) (by kernel_rfl) (fun _ _ _ h => h) (Or.inl ⟨by rfl, ?_⟩) (by assumption) ?_; rotate_left; (· intro w hSw; (try dsimp only at hSw); go_simp; first | done | with_reducible rfl); (try simp only [List.getElem_toArray, List.getElem_cons_zero, List.getElem_cons_succ, Act.put, List.setIfInBounds_toArray, List.set_cons_zero, List.set_cons_succ])); (refine wpAnyH_take (i := 5) (v := ?_) rfl (by kernel_rfl) (by kernel_rfl) (by kernel_rfl) (fun _ _ _ h => h) (Or.inl ⟨by rfl, ?_⟩) (by assumption) ?_; rotate_left; (· intro w hSw; (try dsimp only at hSw); go_simp; first | done | with_reducible rfl); (try simp only [List.getElem_toArray, List.getElem_cons_zero, List.getElem_cons_succ, Act.put, List.setIfInBounds_toArray, List.set_cons_zero, List.set_cons_succ])); (refine wpAnyH_take (i := 6) (v := ?_) rfl (by kernel_rfl) (by kernel_rfl) (by kernel_rfl) (fun _ _ _ h => h) (Or.inl ⟨by rfl, ?_⟩) (by assumption) ?_; rotate_left; (· intro w hSw; (try dsimp only at hSw); go_simp; first | done | with_reducible rfl); (try simp only [List.getElem_toArray, List.getElem_cons_zero, List.getElem_cons_succ, Act.put, List.setIfInBounds_toArray, List.set_cons_zero, List.set_cons_succ])); (refine wpAnyH_take (i := 7) (v := ?_) rfl (by kernel_rfl) (by kernel_rfl) (by kernel_rfl) (fun _ _ _ h => h) (Or.inl ⟨by rfl, ?_⟩) (by assumption) ?_; rotate_left; (· intro w hSw; (try dsimp only at hSw); go_simp; first | done | with_reducible rfl); (try simp only [List.getElem_toArray, List.getElem_cons_zero, List.getElem_cons_succ, Act.put, List.setIfInBounds_toArray, List.set_cons_zero, List.set_cons_succ])); (refine wpAnyH_take (i := 8) (v := ?_) rfl (by kernel_rfl) (by kernel_rfl) (by kernel_rfl) (fun _ _ _ h => h) (Or.inl ⟨by rfl, ?_⟩) (by assumption) ?_; rotate_left; (· intro w hSw; (try dsimp only at hSw); go_simp; first | done | with_reducible rfl); (try simp only [List.getElem_toArray, List.getElem_cons_zero, List.getElem_cons_succ, Act.put, List.setIfInBounds_toArray, List.set_cons_zero, List.set_cons_succ])); (refine wpAnyH_take (i := 9) (v := ?_) rfl (by kernel_rfl) (by kernel_rfl) (by kernel_rfl) (fun _ _ _ h => h) (Or.inl ⟨by rfl, ?_⟩) (by assumption) ?_; rotate_left; (· intro w hSw; (try dsimp only at hSw); go_simp; first | done | with_reducible rfl); (try simp only [List.getElem_toArray, List.getElem_cons_zero, List.getElem_cons_succ, Act.put, List.setIfInBounds_toArray, List.set_cons_zero, List.set_cons_succ])); (refine wpAnyH_take (i := 10) (v := ?_) rfl (by kernel_rfl) (by kernel_rfl) (by kernel_rfl) (fun _ _ _ h => h) (Or.inl ⟨by rfl, ?_⟩) (by assumption) ?_; rotate_left; (· intro w hSw; (try dsimp only at hSw); go_simp; first | done | with_reducible rfl); (try simp only [List.getElem_toArray, List.getElem_cons_zero, List.getElem_cons_succ, Act.put, List.setIfInBounds_toArray, List.set_cons_zero, List.set_cons_succ])); (refine wpAnyH_take (i := 11) (v := ?_) rfl (by kernel_rfl) (by kernel_rfl) (by kernel_rfl) (fun _ _ _ h => h) (Or.inl ⟨by rfl, ?_⟩) (by assumption) ?_; rotate_left; (· intro w hSw; (try dsimp only at hSw); go_simp; first | done | with_reducible rfl); (try simp only [List.getElem_toArray, List.getElem_cons_zero, List.getElem_cons_succ, Act.put, List.setIfInBounds_toArray, List.set_cons_zero, List.set_cons_succ])))
      (refine wpAnyH_done (by kernel_rfl) ?_ _; refine NoPanic.normal ?_)
      clear hHeld
      have cc := four_cells HX1.out
      have k0 := cc.1
      have k1 := cc.2.1
      have k2 := cc.2.2.1
      have k3 := cc.2.2.2.1
      clear cc
      simp only [Exit.then]
      by_cases hc : (t : Int) = c
      · have hc1 : ((t : Int) != c) = false := by simpa using hc
        have HFN := Lib.hid (show isHit a c k = true by rw [hH]; exact decide_eq_true hc)
        have HGO := Lib.hid (show gridOk a b = true from decide_eq_true ⟨HA.out.1, HA.out.2.1, HA.out.2.2.1, HA.out.2.2.2.1⟩)
        have lk : k < ls.length := by rw [HLL.out]; exact hlt
        have xl := HL1.out.at lk
        have ixl := FS.is HWL.out k lk
        obtain ⟨e0, m0⟩ := nbI_facts (-1) 0 u v HA.out.1 HA.out.2.2.1
        obtain ⟨e1, m1⟩ := nbI_facts 1 0 u v HA.out.1 HA.out.2.2.1
        obtain ⟨e2, m2⟩ := nbI_facts 0 (-1) u v HA.out.1 HA.out.2.2.1
        obtain ⟨e3, m3⟩ := nbI_facts 0 1 u v HA.out.1 HA.out.2.2.1
        clear e0 e1 e2 e3
        have HNB := Lib.hid (fun w0 => neighbours_any a b (some ⟨gv, 0, none⟩) xs.length capv u v w0 HGO.out HB1.out.1 HB1.out.2)
        have hHV := fun y0 y1 y2 y3 G0 G1 G2 G3 => hit_value (b := b) (c := c) (L := fun j => cn .f32 (ls.getD j 0)) (F := fun j => cn .f32 (xs.getD j 0)) HUV.out.1 HUV.out.2 (y0 := y0) (y1 := y1) (y2 := y2) (y3 := y3) (X := cn .f32 (ls.getD k 0)) G0 G1 G2 G3 rfl
        generalize nbI a b (-1) 0 u v = n0 at m0 hHV HNB
        generalize nbI a b 1 0 u v = n1 at m1 hHV HNB
        generalize nbI a b 0 (-1) u v = n2 at m2 hHV HNB
        generalize nbI a b 0 1 u v = n3 at m3 hHV HNB
        have l0 : n0 < xs.length := lt_of_area HA.out.2.2.2.2.1 m0
        have l1 : n1 < xs.length := lt_of_area HA.out.2.2.2.2.1 m1
        have l2 : n2 < xs.length := lt_of_area HA.out.2.2.2.2.1 m2
        have l3 : n3 < xs.length := lt_of_area HA.out.2.2.2.2.1 m3
        have G0 : es.getD n0 0 < 2 ^ FloatKind.f32.format.width := HEW.out _ (getD_in (by rw [hel]; exact l0))
        have G1 : es.getD n1 0 < 2 ^ FloatKind.f32.format.width := HEW.out _ (getD_in (by rw [hel]; exact l1))
        have G2 : es.getD n2 0 < 2 ^ FloatKind.f32.format.width := HEW.out _ (getD_in (by rw [hel]; exact l2))
        have G3 : es.getD n3 0 < 2 ^ FloatKind.f32.format.width := HEW.out _ (getD_in (by rw [hel]; exact l3))
        have HF := Lib.hid (hHV _ _ _ _ G0 G1 G2 G3 (HE.out n0 (Nat.zero_le _) l0).eq (HE.out n1 (Nat.zero_le _) l1).eq (HE.out n2 (Nat.zero_le _) l2).eq (HE.out n3 (Nat.zero_le _) l3).eq)
        have C0 := Lib.hid (fun (w' : World) (h : RW B w' gv capv es) => h.at (show n0 < es.length by rw [HEL.out]; exact l0))
        have C1 := Lib.hid (fun (w' : World) (h : RW B w' gv capv es) => h.at (show n1 < es.length by rw [HEL.out]; exact l1))
        have C2 := Lib.hid (fun (w' : World) (h : RW B w' gv capv es) => h.at (show n2 < es.length by rw [HEL.out]; exact l2))
        have C3 := Lib.hid (fun (w' : World) (h : RW B w' gv capv es) => h.at (show n3 < es.length by rw [HEL.out]; exact l3))
        have CK := Lib.hid (fun (w' : World) (h : RW B w' gv capv es) => h.at (show k < es.length by rw [HEL.out]; exact hlt))
        have L0 := Lib.hid l0; have L1 := Lib.hid l1; have L2 := Lib.hid l2; have L3 := Lib.hid l3
        have HLT := Lib.hid hlt
        have HWK := Lib.hid hwk
        clear hHV m0 m1 m2 m3 l0 l1 l2 l3 hu1 hv0 hm1 hd1 hw1 hw2 hs2 ha0 hH hwn hwk
        generalize cn .f32 (ls.getD k 0) = X at ixl HF
        generalize ls.getD k 0 = x at xl ixl
        generalize es.getD n0 0 = y0 at G0 C0 HF
        generalize es.getD n1 0 = y1 at G1 C1 HF
        generalize es.getD n2 0 = y2 at G2 C2 HF
        generalize es.getD n3 0 = y3 at G3 C3 HF
        go_upto_region 6 with fail
        clear hc1 hw3 hs3
        go_upto_region 7 with fail
        clear xl k0 k1 k2 k3
        have hb8 := (Below.refl W1.heap.size W1).alloc (Nat.le_refl _) (.cells #[.float .f32 x] 37)
        have HP8 := Lib.hid (heap_alloc_new W1 (.cells #[.float .f32 x] 37))
        have hkb1 : kb < W1.heap.size := (Array.getElem?_eq_some_iff.1 HX1.out).1
        have HX8 := Lib.hid ((hb8.block kb hkb1).trans HX1.out)
        have HB8 := Lib.hid hb8
        have HPS := Lib.hid (show W1.heap.size < (W1.alloc (.cells #[.float .f32 x] 37)).heap.size by simp)
        clear hb8
        generalize W1.alloc (.cells #[.float .f32 x] 37) = w8 at HP8 HX8 HB8 HPS ⊢
        generalize hp : W1.heap.size = p at HP8 HPS ⊢
        have cc := four_cells HX8.out
        have k0 := cc.1
        have k1 := cc.2.1
        have k2 := cc.2.2.1
        have k3 := cc.2.2.2.1
        clear cc
        go_wp2_with fail
        clear k0 k1 k2 k3
        refine (HNB.out _).mono ?_; rintro e w9 ⟨q1, q2, rfl, hq1, hq2, h4, hs, hb9⟩
        have HE9 := Lib.hid (HB8.out.trans (hb9.mono HB8.out.size))
        have HP9 := Lib.hid ((hb9.block p HPS.out).trans HP8.out)
        have hq1s : q1 < w9.heap.size := block_lt_of_cell h4.1
        have hq2s : q2 < w9.heap.size := block_lt_of_cell hs
        have hpq : p ≠ q2 := by have := HPS.out; omega
        have hwp : W1.heap.size ≤ p := Nat.le_of_eq hp
        have HR := Lib.hid ixl
        have hgv := (HV1.out.lt gv rfl).2
        have HV9 := HV1.out.still HE9.out
        go_wp2_with fail
        refine (wpIn_wide (n := 5)).1 ?_
        refine wpIn_rangeFunc_ownF rfl (by omega) (gf := 238) (lb := #[.pointer (some ⟨q1, 0, none⟩), .pointer (some ⟨q2, 0, none⟩)]) rfl trivial (enters_of Try.func238 (by kernel_rfl) rfl) (iter_stops (5 - 1) (by omega) q1 q2 gv 0 xs.length capv W1.heap.size n0 n1 n2 n3 ⟨y0, G0⟩ ⟨y1, G1⟩ ⟨y2, G2⟩ ⟨y3, G3⟩ w9 hq1s hq2s HE9.out.size hgv h4 hs L0.out L1.out L2.out L3.out (by rw [Nat.zero_add]; exact C0.out _ HV9) (by rw [Nat.zero_add]; exact C1.out _ HV9) (by rw [Nat.zero_add]; exact C2.out _ HV9) (by rw [Nat.zero_add]; exact C3.out _ HV9))
          (fun h k => ⟨k.1.trans h.1, h.2.trans k.2⟩)
          (fun W l o o' hl h hc hw => ⟨(belowK_b (n₀ := w9.heap.size) (w := w9) (Nat.le_refl _) W l o o' hl h hc hw).cell (p := ⟨q2, 0, none⟩) hq2s, belowK_b (w := w9) HE9.out.size W l o o' hl h hc hw⟩)
          (Below.refl _ _) (fun _ => rfl)
          (fun pre W => (∃ r, W.cell? ⟨p, 0, none⟩ = some (.float .f32 r) ∧ W.frozen? ⟨p, 0, none⟩ = false ∧ Is .f32 r (adds X pre)) ∧ Below W1.heap.size W1 W)
          (fun _ _ _ => False)
          (OwnFrom.and (Own.from (fun s A B row hs hg hr => by obtain ⟨r, h1, h2, h3⟩ := hs; exact ⟨r, cell_kept h1 hg hr, (frozen_kept h1 hg hr).trans h2, h3⟩) _) (ownFrom_below (Nat.le_refl _) HE9.out.size))
          (fun _ _ _ _ _ hs _ _ => hs)
          ⟨⟨x, by rw [Joins.cell_of_block HP9.out]; rfl, by simp [World.frozen?, HP9.out], HR.out⟩, HE9.out⟩
          ?a1 ?assign ?body ?done ?stop
        case assign =>
          intro l x W K hK
          gi_wp2
          exact hK
        case body =>
          rintro l pre x W ⟨⟨r1, hc1, hf1, hr1⟩, hB⟩ _
          have ixx : Is .f32 x.1 (cn .f32 x.1) := Is.of_lt x.2
          gi_wp2_with (apply wpListIn_farith; rfl; rfl; rfl; rfl; (first | with_reducible assumption | exact Is.const rfl); (first | with_reducible assumption | exact Is.const rfl); intro r2 m2 hr2)
          have hb2 := below_drewN hB m2
          exact ⟨(KeepsOthers_drewN W m2).trans (KeepsOthers.setCell _ _ _), ⟨World.cell?_setCell_other _ _ _ _ (fun e => hpq (congrArg Addr.block e)), (below_drewN (Below.refl _ W) m2).setCell (p := ⟨p, 0, none⟩) hwp _⟩, ⟨r2, World.cell?_setCell_same' _ _ _ (by rw [show (W.drewN m2).cell? ⟨p, 0, none⟩ = _ from hc1]; rfl), by rw [World.frozen?_setCell]; exact hf1, by rw [adds_snoc]; exact hr2⟩, hb2.setCell (p := ⟨p, 0, none⟩) hwp _⟩
        case stop =>
          rintro D c pre W _ _ h _
          exact h.elim
        case done =>
          rintro D ys W hD rfl ⟨⟨r1, hc1, hf1, hr1⟩, hB⟩ hK
          have HVW := Lib.hid (HV1.out.still hB)
          have HLW := Lib.hid (HL1.out.still hB)
          have HXW := Lib.hid ((hB.block kb hkb1).trans HX1.out)
          have HMW := Lib.hid (show ∀ E ∈ ds, w.heap.size ≤ E ∧ W.heap[E]? = some (.deferred (some [])) from fun E hE => ⟨(HM1.out E hE).1, (hB.block E (Array.getElem?_eq_some_iff.1 (HM1.out E hE).2).1).trans (HM1.out E hE).2⟩)
          have HDW := Lib.hid (grown_trans HD1.out (grown_below (row := some gv) hB))
          have HDL := Lib.hid (show W1.heap.size ≤ D from Nat.le_trans HE9.out.size hD)
          have HDN := Lib.hid (show D ∉ ds from fun h => by have := (Array.getElem?_eq_some_iff.1 (HM1.out D h).2).1; have := HDL.out; omega)
          have HK := Lib.hid hK
          have HGV := Lib.hid hgv
          have cc := four_cells HXW.out
          have k0 := cc.1
          have k1 := cc.2.1
          have k2 := cc.2.2.1
          have k3 := cc.2.2.2.1
          clear cc hf1 hK hD hB hgv HV9 hq1 hq2 hq1s hq2s hpq hwp h4 hs hb9 hp hkb1
          have xk := CK.out W HVW.out
          have hf := HVW.out.frozenAt k
          generalize adds X [⟨y0, G0⟩, ⟨y1, G1⟩, ⟨y2, G2⟩, ⟨y3, G3⟩] = SU at hr1 HF
          dsimp only
          go_upto_region 10 with fail
          go_upto_region 3 with (first | (apply wpList_farith; rfl; rfl; rfl; rfl; (first | with_reducible assumption | exact Is.const rfl); (first | with_reducible assumption | exact Is.const rfl); intro r n hr))
          clear xk hf k0 k1 k2 k3
          have PT := RW.put (show RW B (W.drewN n) gv capv es from HVW.out) k r
          have HV5 := Lib.hid PT.1
          have HL5 := Lib.hid (RW.other (show RW B (W.drewN n) gl capl ls from HLW.out) PT.2 (fun e => HNE.out e.symm))
          have HX5 := Lib.hid ((PT.2.block kb (Array.getElem?_eq_some_iff.1 HXW.out).1 (fun e => HKV.out (Option.some.inj e).symm)).trans (show (W.drewN n).heap[kb]? = _ from HXW.out))
          have HD5 := Lib.hid (grown_trans (grown_drewN HDW.out n) PT.2)
          have HDG : D ≠ gv := fun e => by have := HGV.out; have := HDL.out; omega
          have HM5 := Lib.hid (show ∀ E ∈ D :: ds, w.heap.size ≤ E ∧ ((W.drewN n).setCell ⟨gv, k, none⟩ (.float .f32 r)).heap[E]? = some (.deferred (some [])) from fun E hE => by
            rcases List.mem_cons.1 hE with rfl | hE
            · exact ⟨Nat.le_trans HD1.out.size HDL.out, (Below.heap_setCell _ _ _ _ HDG).trans HK.out⟩
            · have h := HMW.out E hE
              refine ⟨h.1, (Below.heap_setCell _ _ _ _ (fun e => ?_)).trans h.2⟩
              have e' : E = gv := e
              rcases HVW.out.2 with ⟨h', _⟩ | ⟨g, cap, cur, h', _, hg, _⟩
              · cases h'
              · simp only [Value.slice.injEq, Option.some.injEq, Addr.mk.injEq, and_true, true_and] at h'
                rw [← h'.1, ← e', h.2] at hg; cases hg)
          have HN5 := Lib.hid (List.nodup_cons.2 ⟨HDN.out, HN.out⟩)
          have HE5 := Lib.hid (sweepF_hit (r := r) HFN.out HE.out HEL.out hlt (by rw [HF.out]; exact hr))
          have HW5 := Lib.hid (show ∀ x ∈ es.set k r, x < 2 ^ FloatKind.f32.format.width from fun x hx => by
            rcases List.mem_or_eq_of_mem_set hx with h | h
            · exact HEW.out x h
            · subst h; exact hr.lt)
          have HEL5 := Lib.hid (show (es.set k r).length = xs.length by rw [List.length_set]; exact HEL.out)
          generalize (W.drewN n).setCell ⟨gv, k, none⟩ (.float .f32 r) = W5 at HV5 HL5 HX5 HD5 HM5 ⊢
          clear PT HDG hr hr1
          go_wp2_with fail
          refine ⟨?_, ?_⟩
          · refine meet_of (by rfl) ?_
            exact ⟨k + 1, es.set k r, D :: ds, congrArg (Value.int .i64) (HWK.out.trans (by omega)), rfl, by omega, HEL5, HW5, HE5, HV5, HL5, HN5, HM5, HD5, HX5⟩
          · exact meas_down rfl rfl HWK.out hlt
      · have hc1 : ((t : Int) != c) = true := by simpa using hc
        have hFN : isHit a c k = false := by rw [hH]; exact decide_eq_false hc
        have HEN := Lib.hid (sweepF_miss hFN HE.out)
        go_upto_region 3 with fail
        clear hu1 hv0 hm1 hd1 hw1 hw2 hw3 hs2 hs3 hc1 hH hFN k0 k1 k2 k3 hwn ha0
        go_wp2_with fail
        refine ⟨?_, ?_⟩
        · refine meet_of (by rfl) ?_
          exact ⟨k + 1, es, ds, congrArg (Value.int .i64) (hwk.trans (by omega)), rfl, by omega, HEL, HEW, HEN, HV1, HL1, HN, HM1, HD1, HX1⟩
        · exact meas_down rfl rfl hwk hlt
    · have hk2 : ¬ (k : Int) < (xs.length : Int) := by omega
      have hk3 : k = xs.length := by omega
      go_wp2_with fail
      show LeavesInM Fence.wide 5 Try.prog Try.f167 _ _ (marksOf ds) .returning W
      refine leaves_marks undef (some gv) w ds W HN.out HM.out HD.out (fun W' hb' hkk hs => ?_)
      have hgv : gv ∉ ds := fun h => by
        have h1 := (HM.out gv h).2
        rcases HV.out.2 with ⟨h', _⟩ | ⟨g, cap, cur, h', _, hg, _⟩
        · cases h'
        · simp only [Value.slice.injEq, Option.some.injEq, Addr.mk.injEq, and_true, true_and] at h'
          rw [← h'.1, h1] at hg; cases hg
      have hgl : gl ∉ ds := fun h => by
        have h1 := (HM.out gl h).2
        rcases HL.out.2 with ⟨h', _⟩ | ⟨g, cap, cur, h', _, hg, _⟩
        · cases h'
        · simp only [Value.slice.injEq, Option.some.injEq, Addr.mk.injEq, and_true, true_and] at h'
          rw [← h'.1, h1] at hg; cases hg
      exact ⟨_, results_none rfl _ _ _, ⟨es, rfl, hel, HEW.out, by have := HE.out; rw [hk3] at this; exact this, HV.out.heap (hkk gv hgv), HL.out.heap (hkk gl hgl)⟩, hb'⟩
end Go.Proofs.Ytjfnecmnofcjbaa
