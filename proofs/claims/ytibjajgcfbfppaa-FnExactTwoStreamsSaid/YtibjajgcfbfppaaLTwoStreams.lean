/- FnExactTwoStreams: for all arguments the law returns true: TwoStreams answers as its model does, in all results, its arguments read as before, and its result is memory of its own. No condition. -/
import Derived.Test.YtibjajgcfbfppaaRows
import Derived.WalkKit
import Derived.ProofKit
import Derived.OpenShut
import Derived.ShutString
import Derived.ChangeOld
import Derived.Below
import Derived.Laws.Cover2
import Derived.Test.YtibjajgcfbfppaaStrmM
namespace Go.Proofs.Ytibjajgcfbfppaa.fnExactTwoStreams
open Go.ChangeShapes Go.WideShapes Go.ChangeAt Go.RowKit Go.Fl
open Go.ChangeMaps (open_string shut_string)
set_option linter.unusedVariables false

/-- What both sides return. -/
def Res (A B' : Int) (n : Nat) (K : Nat → Pb) (BK : Nat) (ok : Bool) (Bd : Nat) (e : Ending) (w' : World) : Prop := ∃ (v : Value) (ts : List Pb) (k : Nat), ts.length = n ∧ BOwn Bd w' v ts ∧ EqP ts K ∧ Is .f32 k BK ∧ e = .returned (.tuple #[CV A B' v k, .bool ok])
theorem res_yes {a b : Int} {N S Bd : Nat} {e : Ending} {w' : World} (h : TwoRes a b N S Bd e w') (ho : okWith a b (KS a b N S) N (bkF a b N) = true) : Res a b N (KS a b N S) (bkF a b N) true Bd e w' := by
  obtain ⟨v, ts, k, h1, h2, h3, h4, h5⟩ := h
  exact ⟨v, ts, k, h1, h2, h3, h4, by rw [h5, ho]; rfl⟩
theorem res_nil (K : Nat → Pb) (Bd : Nat) (w' : World) : Res 0 0 0 K 0 false Bd (.returned (.tuple #[CV 0 0 (.slice none 0 0) 0, .bool false])) w' :=
  ⟨.slice none 0 0, [], 0, rfl, World.ownsRow_nil _ _ _ _, EqP.nil _, is_zero, rfl⟩
theorem res_no {a b : Int} {N S Bd : Nat} {e : Ending} {w' : World} (h : TwoRes a b N S Bd e w') (ho : okWith a b (KS a b N S) N (bkF a b N) = false) (K : Nat → Pb) : Res 0 0 0 K 0 false Bd e w' := by
  obtain ⟨v, ts, k, h1, h2, h3, h4, rfl⟩ := h
  rw [ho]
  exact res_nil K Bd w'

theorem both (a b c : Int) (s S : Nat) (is : Is .f32 s S) : ∃ (A B' : Int) (n : Nat) (K : Nat → Pb) (BK : Nat) (ok : Bool), n ≤ 48 ∧
    (∀ w, Calls Try.prog 26 #[GV a b, .int .i64 c, .float .f32 s] w fun e w' => Res A B' n K BK ok w.heap.size e w' ∧ Below w.heap.size w w') ∧
    (∀ w, Calls Try.prog 28 #[GV a b, .int .i64 c, .float .f32 s] w fun e w' => Res A B' n K BK ok w.heap.size e w' ∧ Below w.heap.size w w') := by
  by_cases hc : 1 ≤ c ∧ c ≤ 24
  · obtain ⟨m, rfl⟩ : ∃ m : Nat, c = (m : Int) := ⟨c.toNat, by omega⟩
    have m0 : 1 ≤ m := by omega
    have m1 : m ≤ 24 := by omega
    cases ho : okWith a b (KS a b (2 * m) S) (2 * m) (bkF a b (2 * m)) with
    | true =>
      have hg : gridOk a b = true := by unfold okWith at ho; revert ho; cases gridOk a b <;> simp
      exact ⟨a, b, 2 * m, KS a b (2 * m) S, bkF a b (2 * m), true, by omega, fun w => (sTwo_yes a b m _ rfl s S is m0 m1 hg w).mono (fun e w' h => ⟨res_yes h.1 ho, h.2⟩), fun w => (iTwo_yes a b m _ rfl s S is m0 m1 w).mono (fun e w' h => ⟨res_yes h.1 ho, h.2⟩)⟩
    | false =>
      refine ⟨0, 0, 0, KS a b 0 S, 0, false, by omega, fun w => ?_, fun w => (iTwo_yes a b m _ rfl s S is m0 m1 w).mono (fun e w' h => ⟨res_no h.1 ho _, h.2⟩)⟩
      cases hg : gridOk a b with
      | true => exact (sTwo_yes a b m _ rfl s S is m0 m1 hg w).mono (fun e w' h => ⟨res_no h.1 ho _, h.2⟩)
      | false => exact (sTwo_no a b m s (by rw [hg]; rfl) w).mono (fun e w' h => ⟨by rw [h.1]; exact res_nil _ _ _, h.2⟩)
  · refine ⟨0, 0, 0, KS a b 0 S, 0, false, by omega, fun w => (sTwo_no a b c s (by rw [decide_eq_false hc, Bool.and_false]) w).mono (fun e w' h => ⟨by rw [h.1]; exact res_nil _ _ _, h.2⟩), fun w => (iTwo_no a b c s (by omega) w).mono (fun e w' h => ⟨by rw [h.1]; exact res_nil _ _ _, h.2⟩)⟩

/-- A cloud in a box of the law's, with its list. -/
def Keep (w1 : World) (x : Nat) (a b : Int) (v : Value) (k B : Nat) (xs : List R4) (W : World) : Prop := Below w1.heap.size w1 W ∧ W.heap[x]? = some (.cells (CC a b v k) 56) ∧ R4Own B W v xs
theorem Keep.step {w1 : World} {x : Nat} {a b : Int} {v : Value} {k B : Nat} {xs : List R4} {W W' : World} (h : Keep w1 x a b v k B xs W) (hb : Below W.heap.size W W') : Keep w1 x a b v k B xs W' :=
  ⟨h.1.trans (hb.mono h.1.size), (hb.block x (Array.getElem?_eq_some_iff.1 h.2.1).1).trans h.2.1, r4_below h.2.2 hb⟩
theorem Keep.mark {w1 : World} {x y : Nat} {a b a' b' : Int} {v u : Value} {k k' B B' : Nat} {xs ys zs : List R4} {W Wa W' : World} (hS : Keep w1 x a b v k B xs W) (hG : Keep w1 y a' b' u k' B' ys W)
    (h1 : x < B') (h2 : ∀ j, v.ownBlock = some j → j < B') (h3 : ∀ j, u.ownBlock = some j → j < y) (h0 : w1.heap.size ≤ B') (hb : Below W.heap.size W Wa) (hg : Wa.grownBy W' u.ownBlock) (ho : R4Own B' W' u zs) :
    Keep w1 x a b v k B xs W' ∧ Keep w1 y a' b' u k' B' zs W' := by
  have hSa := hS.step hb; have hGa := hG.step hb
  have hbg : ∀ j, u.ownBlock = some j → B' ≤ j := fun j e => (ho.lt j e).1
  have hB := hSa.1.grown hg hSa.1.size (fun j e => Nat.le_trans h0 (hbg j e))
  refine ⟨⟨hB, (hg.block x (Array.getElem?_eq_some_iff.1 hSa.2.1).1 (fun e => ?_)).trans hSa.2.1, World.ownsRow.kept hSa.2.2 hg ?_⟩, hB, (hg.block y (Array.getElem?_eq_some_iff.1 hGa.2.1).1 (fun e => ?_)).trans hGa.2.1, ho⟩
  · have := hbg x (by rw [← e]); omega
  · cases hv : v.ownBlock with
    | none => exact .inl rfl
    | some j => exact .inr (fun e => by have := hbg j e.symm; have := h2 j hv; omega)
  · have := h3 y (by rw [← e]); omega
theorem box_new (W : World) (cs : Array Value) : Below W.heap.size W ((W.alloc (.cells (CC 0 0 (.slice none 0 0) 0) 56)).setRow W.heap.size cs) ∧ ((W.alloc (.cells (CC 0 0 (.slice none 0 0) 0) 56)).setRow W.heap.size cs).heap[W.heap.size]? = some (.cells cs 56) :=
  ⟨below_setRow ((Below.refl _ _).alloc (Nat.le_refl _) _) (Nat.le_refl _) _, setRow_heap _ _ _ _ _ _ (heap_alloc_new W _)⟩
theorem keep_new {w1 W W' : World} {a b : Int} {v : Value} {k B : Nat} {xs : List R4} (hD : Below w1.heap.size w1 W) (ho : R4Own B W v xs) (h : Below W.heap.size W W' ∧ W'.heap[W.heap.size]? = some (.cells (CC a b v k) 56)) : Keep w1 W.heap.size a b v k B xs W' :=
  ⟨hD.trans (h.1.mono hD.size), h.2, r4_below ho h.1⟩
theorem own_one {B : Nat} {w : World} {v : Value} {ts : List Pb} (h : BOwn B w v ts) : v.oneCell' = true := by
  obtain ⟨a, cap, rfl, _⟩ := b_form h; rfl
theorem one5v (a b : Int) (v : Value) (h : v.oneCell' = true) (m k : Nat) : (#[Value.int .i64 a, .int .i64 b, v, .float .f32 m, .float .f32 k] : Array Value).all (·.oneCell') = true := by
  simp [Value.oneCell']
  simpa [Value.oneCell'] using h
theorem pc_list (ts : List Pb) : ∀ i (h : i < (ts.map Pb.r4).length), PC4 (ts.map Pb.r4)[i] := fun i h => by rw [List.getElem_map]; exact pb_pc _

set_option maxHeartbeats 4000000 in
set_option maxRecDepth 100000 in
theorem walk (a b c : Int) (s : Nat) (w : World) (w0 : (Lit.int .i64 a).wf = true) (x0 : (Lit.int .i64 b).wf = true) (w1 : (Lit.int .i64 c).wf = true) (w2 : (Lit.float .f32 s).wf = true) :
    Calls Try.prog 5 #[GV a b, .int .i64 c, .float .f32 s] w fun e w' => e = .returned (.bool true) ∧ Below w.heap.size w w' := by
  clear w0 x0 w1
  obtain ⟨A, B', n, K, BK, ok, hn, hS, hI⟩ := both a b c s _ (Is.of_lt (wf_lt w2))
  have HS := Lib.hid hS; have HI := Lib.hid hI
  clear hS hI w2
  go_enter Try.func5, Try.ntmps5
  have hb0 := (Below.refl w.heap.size w).alloc (Nat.le_refl _) (.cells #[.int .i64 a, .int .i64 b] 54)
  have hp := gp_new w a b 54
  have hc0 := hp.cells.1; have hc1 := hp.cells.2
  have HG := Lib.hid hp; clear hp
  go_wp2_with fail
  clear hc0 hc1
  generalize w.alloc (.cells #[.int .i64 a, .int .i64 b] 54) = w1 at hb0 HG ⊢
  have HB := Lib.hid hb0
  clear hb0
  have D1 := Lib.hid (Below.refl w1.heap.size w1)
  refine (toGrid_any a b _).mono ?_; rintro e w2 ⟨rfl, hb⟩
  have D2 := Lib.hid (D1.out.trans (hb.mono D1.out.size))
  clear hb
  go_wp2_with fail
  refine (HS.out _).mono ?_; rintro e w3 ⟨⟨vS, ts, kS, hl, ho, he, hk, rfl⟩, hb⟩
  have D3 := Lib.hid (D2.out.trans (hb.mono D2.out.size))
  have LS := Lib.hid hl; have OS := Lib.hid ho; have ES := Lib.hid he; have KSS := Lib.hid hk
  have RS := Lib.hid ho.lt
  clear hl ho he hk hb
  have HX := Lib.hid (box_new w3 (CC A B' vS kS))
  have HK := Lib.hid (keep_new D3.out OS.out HX.out)
  have hc0 := (GP.below HG.out HK.out.1).cells.1; have hc1 := (GP.below HG.out HK.out.1).cells.2
  go_wp2_with ((with_reducible show wpList _ _ _ (Oper.mk none (Op.store _ (Operand.tmp 7) _) _ _ _ _ :: _) _ _); refine wpList_store_row rfl 56 _ _ rfl w3.heap.size (CC A B' vS kS) rfl rfl 56 _ (heap_alloc_new w3 _) info_cloud rfl (one5v _ _ _ (own_one OS.out) _ _) ?_)
  clear hc0 hc1
  generalize (w3.alloc (.cells (CC 0 0 (.slice none 0 0) 0) 56)).setRow w3.heap.size (CC A B' vS kS) = w4 at HX HK ⊢
  have QS := Lib.hid (show ∀ j, vS.ownBlock = some j → j < w3.heap.size from fun j e => (RS.out j e).2)
  have Z4 := Lib.hid (Array.getElem?_eq_some_iff.1 HX.out.2).1
  generalize w3.heap.size = bS at HK QS Z4 ⊢
  clear HX OS RS
  refine (toGrid_any a b _).mono ?_; rintro e w5 ⟨rfl, hb⟩
  have Z5 := Lib.hid hb.size
  replace HK := Lib.hid (HK.out.step hb)
  clear hb
  go_wp2_with fail
  refine (HI.out _).mono ?_; rintro e w6 ⟨⟨vG, us, kG, hl, ho, he, hk, rfl⟩, hb⟩
  have Z6 := Lib.hid hb.size
  have Z51 := Lib.hid HK.out.1.size
  replace HK := Lib.hid (HK.out.step hb)
  have LG := Lib.hid hl; have EG := Lib.hid he; have KG := Lib.hid hk
  have RG := Lib.hid ho.lt; have OG := Lib.hid ho
  clear hl ho he hk hb
  have HX := Lib.hid (box_new w6 (CC A B' vG kG))
  have HL := Lib.hid (keep_new HK.out.1 OG.out HX.out)
  replace HK := Lib.hid (HK.out.step HX.out.1)
  have hcS := HK.out.2.1; have hcG := HL.out.2.1
  go_wp2_with (first
    | ((with_reducible show wpList _ _ _ (Oper.mk none (Op.store _ (Operand.tmp 9) _) _ _ _ _ :: _) _ _); refine wpList_store_row rfl 56 _ _ rfl w6.heap.size (CC A B' vG kG) rfl rfl 56 _ (heap_alloc_new w6 _) info_cloud rfl (one5v _ _ _ (own_one OG.out) _ _) ?_)
    | ((with_reducible show wpList _ _ _ (Oper.mk (some 31) _ _ _ _ _ :: _) _ _); refine wpList_load_row rfl 56 _ rfl w6.heap.size rfl 56 (CC A B' vG kG) (0, 0) _ hcG Try.underlying56 rfl info_cloud ?_)
    | ((with_reducible show wpList _ _ _ (Oper.mk (some 32) _ _ _ _ _ :: _) _ _); refine wpList_load_row rfl 56 _ rfl bS rfl 56 (CC A B' vS kS) (0, 0) _ hcS Try.underlying56 rfl info_cloud ?_))
  clear hcS hcG
  generalize (w6.alloc (.cells (CC 0 0 (.slice none 0 0) 0) 56)).setRow w6.heap.size (CC A B' vG kG) = w7 at HX HK HL ⊢
  have QG := Lib.hid (show ∀ j, vG.ownBlock = some j → j < w6.heap.size from fun j e => (RG.out j e).2)
  generalize w6.heap.size = bG at HL QG Z6 ⊢
  clear HX OG RG
  refine (eqCloud_any _ _ A B' vG vS us ts K kG kS BK _ HL.out.2.2 HK.out.2.2 (LG.out.trans LS.out.symm) EG.out ES.out (by rw [LG.out]; exact hn) KG.out KSS.out).mono ?_
  rintro e w8 ⟨rfl, hb⟩
  replace HK := Lib.hid (HK.out.step hb); replace HL := Lib.hid (HL.out.step hb)
  clear hb
  have hcG := HL.out.2.1
  go_wp2_with ((with_reducible show wpList _ _ _ (Oper.mk (some 40) _ _ _ _ _ :: _) _ _); refine wpList_load_row rfl 56 _ rfl bG rfl 56 (CC A B' vG kG) (0, 0) _ hcG Try.underlying56 rfl info_cloud ?_)
  clear hcG
  have LG4 := Lib.hid (show (us.map Pb.r4).length = n by rw [List.length_map]; exact LG.out)
  refine (markCloud_any _ A B' vG (us.map Pb.r4) kG _ HL.out.2.2 (pc_list us) (by rw [LG4.out]; exact hn)).mono ?_
  rintro e w9 ⟨rfl, ho, wa, hb, hg⟩
  rw [LG4.out] at ho ⊢
  have HM := Lib.hid (Keep.mark HK.out HL.out (by have := Z4.out; have := Z5.out; omega) (fun j e => by have := QS.out j e; have := Z4.out; have := Z5.out; omega) QG.out Z51.out hb hg ho)
  replace HK := Lib.hid HM.out.1; replace HL := Lib.hid HM.out.2
  clear ho hb hg HM
  have hcG := HL.out.2.1
  go_wp2_with ((with_reducible show wpList _ _ _ (Oper.mk (some 43) _ _ _ _ _ :: _) _ _); refine wpList_load_row rfl 56 _ rfl bG rfl 56 (CC A B' vG kG) (0, 0) _ hcG Try.underlying56 rfl info_cloud ?_)
  clear hcG
  refine (heldCloud_any _ A B' vG n kG _ HL.out.2.2 hn).mono ?_
  rintro e w10 ⟨rfl, hb⟩
  replace HK := Lib.hid (HK.out.step hb); replace HL := Lib.hid (HL.out.step hb)
  clear hb
  have hge : decide (4 * (n : Int) + 1 < 0) = false := decide_eq_false (by omega)
  have hc0 := (GP.below HG.out HK.out.1).cells.1; have hc1 := (GP.below HG.out HK.out.1).cells.2
  go_wp2_with fail
  clear hc0 hc1
  refine (toGrid_any a b _).mono ?_; rintro e w11 ⟨rfl, hb⟩
  replace HK := Lib.hid (HK.out.step hb); replace HL := Lib.hid (HL.out.step hb)
  clear hb
  go_wp2_with fail
  refine (HI.out _).mono ?_; rintro e w12 ⟨⟨vH, vs, kH, hl, ho, he, hk, rfl⟩, hb⟩
  replace HK := Lib.hid (HK.out.step hb); replace HL := Lib.hid (HL.out.step hb)
  have LH := Lib.hid hl; have EH := Lib.hid he; have KH := Lib.hid hk; have OH := Lib.hid ho
  clear hl ho he hk hb
  have HX := Lib.hid (box_new w12 (CC A B' vH kH))
  have HH := Lib.hid (keep_new HK.out.1 OH.out HX.out)
  replace HK := Lib.hid (HK.out.step HX.out.1); replace HL := Lib.hid (HL.out.step HX.out.1)
  have hcS := HK.out.2.1; have hcH := HH.out.2.1
  go_wp2_with (first
    | ((with_reducible show wpList _ _ _ (Oper.mk none (Op.store _ (Operand.tmp 13) _) _ _ _ _ :: _) _ _); refine wpList_store_row rfl 56 _ _ rfl w12.heap.size (CC A B' vH kH) rfl rfl 56 _ (heap_alloc_new w12 _) info_cloud rfl (one5v _ _ _ (own_one OH.out) _ _) ?_)
    | ((with_reducible show wpList _ _ _ (Oper.mk (some 59) _ _ _ _ _ :: _) _ _); refine wpList_load_row rfl 56 _ rfl w12.heap.size rfl 56 (CC A B' vH kH) (0, 0) _ hcH Try.underlying56 rfl info_cloud ?_)
    | ((with_reducible show wpList _ _ _ (Oper.mk (some 60) _ _ _ _ _ :: _) _ _); refine wpList_load_row rfl 56 _ rfl bS rfl 56 (CC A B' vS kS) (0, 0) _ hcS Try.underlying56 rfl info_cloud ?_))
  clear hcS hcH
  generalize (w12.alloc (.cells (CC 0 0 (.slice none 0 0) 0) 56)).setRow w12.heap.size (CC A B' vH kH) = w13 at HX HK HL HH ⊢
  clear HX OH
  refine (eqCloud_any _ _ A B' vH vS vs ts K kH kS BK _ HH.out.2.2 HK.out.2.2 (LH.out.trans LS.out.symm) EH.out ES.out (by rw [LH.out]; exact hn) KH.out KSS.out).mono ?_
  rintro e w14 ⟨rfl, hb⟩
  replace HL := Lib.hid (HL.out.step hb)
  clear hb
  have hcG := HL.out.2.1
  go_wp2_with ((with_reducible show wpList _ _ _ (Oper.mk (some 68) _ _ _ _ _ :: _) _ _); refine wpList_load_row rfl 56 _ rfl bG rfl 56 (CC A B' vG kG) (0, 0) _ hcG Try.underlying56 rfl info_cloud ?_)
  clear hcG
  refine (heldCloud_any _ A B' vG n kG _ HL.out.2.2 hn).mono ?_
  rintro e w15 ⟨rfl, hb⟩
  replace HL := Lib.hid (HL.out.step hb)
  clear hb
  go_wp2_with fail
  go_ret
  exact ⟨rfl, HB.out.trans (HL.out.1.mono HB.out.size)⟩
/-! ### from the walk to the statement -/
theorem own : ownKnob Try.prog.godebug = none := by kernel_rfl
theorem laidOut : laidOutB Try.prog = true := by kernel_rfl
set_option maxRecDepth 100000 in
theorem lifted (os : Os) (started : os.Started) (H : Type) (enc : TypeId × Value → H) :
    ReturnsInHanded {} Try.checked os 5 .any (Rows.fnExactTwoStreamsSpec.pre6 enc Try.prog Try.f5 Rows.fnExactTwoStreamsRow.domain false) (Rows.fnExactTwoStreamsSpec.post enc Try.prog Try.f5 false true false false) := by
  refine returnsInHanded_of_change (C := Try.checked) own started (by kernel_rfl) Try.func5
    (ChangeSpec.witness6 (enc := enc) (C := Try.checked) false ⟨#[], #[.agg #[.int .i64 0, .int .i64 0], .int .i64 0, .float .f32 0], []⟩ 8 (by kernel_rfl) (by kernel_rfl) (by kernel_rfl) (by kernel_rfl)) ?_
  intro W base args ds gs before hval0 hW hcnd _
  have hval : ∀ (j : Nat) t v, Try.f5.params[j]? = some t → args[j]? = some v → Value.okWide Try.prog W .any base t v := hval0
  have hW' := hW
  obtain ⟨p, q, hA0, hV, rfl, hfz, hnd⟩ := hW
  have hA : DataW.TrodAll enc Try.prog W 0 (fun _ => true) true Try.f5.params.toList args.toList ds p := hA0
  rw [Try.params5] at hA hval
  obtain ⟨v0, vs0, d0, ds0, p0, q0, hargs, rfl, rfl, h0, r0⟩ := trodAll_cons hA
  obtain ⟨v1, vs1, d1, ds1, p1, q1, rfl, rfl, rfl, h1, r1⟩ := trodAll_cons r0
  obtain ⟨v2, vs2, d2, ds2, p2, q2, rfl, rfl, rfl, h2, r2⟩ := trodAll_cons r1
  obtain ⟨rfl, rfl, rfl⟩ := trodAll_nil r2
  obtain rfl : args = #[v0, v1, v2] := by cases args; simp_all
  obtain ⟨rfl, rfl⟩ := trodVars_none hV
  obtain ⟨a0, b0, rfl, rfl, rfl, w0, x0⟩ := open_pair Try.underlying54 Try.underlying2 (by kernel_rfl) (by kernel_rfl) (hval 0 54 v0 rfl rfl) h0
  obtain ⟨a1, rfl, rfl, rfl, w1⟩ := open_int Try.underlying2 (hval 1 2 v1 rfl rfl) h1
  obtain ⟨a2, rfl, rfl, rfl, w2⟩ := open_float Try.underlying32 (hval 2 32 v2 rfl rfl) h2
  clear hA0 hval0
  refine (walk a0 b0 a1 a2 W w0 x0 w1 w2).mono fun e W' ⟨he, bel⟩ => ?_
  subst he
  exact ⟨_, rfl, _, _, _, [], _, [], hW', trodAll_mk1 (shut_bool Try.underlying4 _), (trodAll_cons_mk (shut_pair Try.underlying54 Try.underlying2 (by kernel_rfl) (by kernel_rfl) w0 x0) (trodAll_cons_mk (shut_int Try.underlying2 w1) (trodAll_cons_mk (shut_float Try.underlying32 w2) trodAll_mk0))), rfl, bel.frame _, fun h => by cases h⟩

theorem over : Rows.fnExactTwoStreamsRow.holds Try.pinned (OpenSpec.ofChange Rows.fnExactTwoStreamsSpec) :=
  OpenClaim.holds_of_wide 5 Try.f5 rfl rfl rfl rfl rfl rfl rfl ⟨rfl, rfl, rfl, rfl, rfl⟩ rfl rfl rfl rfl rfl (by kernel_rfl) Try.func5 (by kernel_rfl)
    (of_decide_eq_true (by kernel_rfl)) (by unfold Func.isWrapper; first | (rw [if_pos (by decide +kernel)]; kernel_rfl) | (rw [if_neg (by decide +kernel)]; exact ⟨rfl, rfl⟩))
    (fun os started H enc _ => lifted os started H enc)

/-- The statement. -/
theorem proved : Rows.FnExactTwoStreamsSaid := over
#print axioms proved
end Go.Proofs.Ytibjajgcfbfppaa.fnExactTwoStreams
