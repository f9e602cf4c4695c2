/-
  Solved potentials: what both texts reckon.
-/
import Derived.Test.YtjfnecmnofcjbaaRnds
namespace Go.Proofs.Ytjfnecmnofcjbaa
open Go.Fl Go.RowKit
open Go.Joins (ownsRow_le)
set_option linter.unusedSimpArgs false
set_option linter.unusedVariables false

/-- A list that a function tells. -/
def lstF (n : Nat) (F : Nat → Nat) : List Nat := (List.range n).map F
theorem lstF_len (n : Nat) (F : Nat → Nat) : (lstF n F).length = n := by simp [lstF]
theorem lstF_at {n j : Nat} (F : Nat → Nat) (h : j < n) : (lstF n F).getD j 0 = F j := by
  rw [List.getD_eq_getElem?_getD]; simp [lstF, h]
theorem sumTo_congr {xs ys : List Nat} (hl : xs.length = ys.length) (h : ∀ j, j < xs.length → cn .f32 (xs.getD j 0) = cn .f32 (ys.getD j 0)) : ∀ k, k ≤ xs.length → sumTo .f32 xs k = sumTo .f32 ys k := by
  intro k
  induction k with
  | zero => intro _; simp [sumTo]
  | succ k ih => intro hk; rw [sumTo_succ _ _ _ (by omega), sumTo_succ _ _ _ (by omega), ih (by omega), h k (by omega)]
theorem lvlF_congr {xs ys : List Nat} (hl : xs.length = ys.length) (h : ∀ j, j < xs.length → cn .f32 (xs.getD j 0) = cn .f32 (ys.getD j 0)) : ∀ j, j < xs.length → lvlF xs j = lvlF ys j := by
  intro j hj
  unfold lvlF meanF
  rw [h j hj, sumTo_congr hl h _ (Nat.le_refl _), hl]
/-- A potential that is solved. -/
def solveF (a b : Int) (zs : List Nat) (R : Nat) : Nat → Nat := lvlF (lstF zs.length (roundsF a b (lvlF zs) zs.length (fun _ => 0) R))
theorem solveF_of {a b : Int} {zs ls es : List Nat} {R : Nat} (h1 : fieldOk a b zs.length = true) (hl : EqOn ls (lvlF zs) 0 zs.length) (hel : es.length = zs.length)
    (he : EqOn es (roundsF a b (fun j => cn .f32 (ls.getD j 0)) zs.length (fun j => cn .f32 ((List.replicate zs.length 0).getD j 0)) R) 0 zs.length) : ∀ j, j < zs.length → lvlF es j = solveF a b zs R j := by
  have hA := fieldOk_true h1
  intro j hj
  unfold solveF
  refine lvlF_congr (by rw [hel, lstF_len]) (fun i hi => ?_) j (by rw [hel]; exact hj)
  have hi' : i < zs.length := by rw [← hel]; exact hi
  have h2 := he i (Nat.zero_le _) hi'
  have h3 := roundsF_congr (F := fun j => cn .f32 ((List.replicate zs.length 0).getD j 0)) (F' := fun _ => 0) hA.1 hA.2.2.1 hA.2.2.2.2.1 (fun j hj => (hl j (Nat.zero_le _) hj).eq) (fun j hj => by
    show cn .f32 ((List.replicate zs.length 0).getD j 0) = 0
    rw [List.getD_eq_getElem?_getD, List.getElem?_replicate, if_pos hj]; exact (Is.const (k := .f32) (c := 0) rfl).eq) R i hi'
  rw [lstF_at _ hi', ← h3, h2.eq]
  exact h2.canon.symm
theorem FRes.congr {B : Nat} {w : World} {v : Value} {n : Nat} {F G : Nat → Nat} (h : FRes B w v n F) (e : ∀ j, j < n → F j = G j) : FRes B w v n G := by
  obtain ⟨rs, h1, h2, h3⟩ := h
  exact ⟨rs, h1, fun j hj => by rw [← e j (h1 ▸ hj)]; exact h2 j hj, h3⟩
theorem zeros_lt (n : Nat) : ∀ x ∈ List.replicate n 0, x < 2 ^ FloatKind.f32.format.width := fun x hx => by rw [(List.mem_replicate.1 hx).2]; decide

set_option maxHeartbeats 1000000 in
set_option maxRecDepth 100000 in
theorem sSolve_any (a b : Int) (R kp : Nat) (v : Value) (zs : List Nat) (w : World) (hR : R ≤ 60) (hp : w.heap[kp]? = some (.cells #[.int .i64 a, .int .i64 b] 27)) (hv : FS .f32 w v zs) (h1 : fieldOk a b zs.length = true) :
    Calls Try.prog 96 #[.pointer (some ⟨kp, 0, none⟩), v, .int .i64 R] w fun e w' => (∃ r, e = .returned r ∧ FRes w.heap.size w' r zs.length (solveF a b zs R)) ∧ Below w.heap.size w w' := by
  obtain ⟨i0, hi, hz0, hz1, hz2⟩ := info_parts F32info
  have HA := Lib.hid (fieldOk_true h1)
  have hn256 : zs.length ≤ 256 := HA.out.2.2.2.2.2
  have hpos : 0 < zs.length := by
    have := HA.out; have h4 : 4 * 4 ≤ a * b := Int.mul_le_mul this.1 this.2.2.1 (by omega) (by omega); omega
  have hb4 : i0.bytes * zs.length ≤ 281474976710656 := by rw [hz2]; omega
  have hml : zs.length ≤ maxLen := by unfold maxLen; omega
  have HI := Lib.hid hi; have HZ0 := Lib.hid hz0; have HZ1 := Lib.hid hz1
  have HU := Lib.hid hv; have HPB := Lib.hid hp; have H1 := Lib.hid h1; have HR := Lib.hid hR
  have HN := Lib.hid (show zs.length ≤ 1048576 by omega)
  have HKP := Lib.hid (Array.getElem?_eq_some_iff.1 hp).1
  obtain ⟨a1, c1, rfl, hlc, hcm, hwf, hmem⟩ := hv
  clear hi hz0 hz1 hz2 hp h1 hlc hcm hwf hmem hR
  go_enter Try.func96, Try.ntmps96
  go_wp2_with (at_make; refine wpList_make_full _ rfl _ _ 24 rfl w.heap.size 37 i0 (.float .f32 0) 1 Try.underlying24 HI.out HZ0.out HZ1.out _ _ _ _ zs.length rfl rfl rfl rfl hb4 hml (Nat.le_refl _) ?_; intro w4 hown hgrow)
  rw [made_zero] at hown
  have HX := Lib.hid (show RW w.heap.size w4 w.heap.size zs.length (List.replicate zs.length 0) by show w4.ownsRow _ _ _ (.slice _ (List.replicate zs.length 0).length _) (List.replicate zs.length 0).length _; rw [List.length_replicate]; exact hown)
  have HD := Lib.hid ((Below.refl w.heap.size w).grown hgrow (Nat.le_refl _) (fun k h => by cases h))
  have HGP := Lib.hid (show kp ≠ w.heap.size from by have := HKP.out; omega)
  have HP4 := Lib.hid ((HD.out.block kp HKP.out).trans HPB.out)
  clear hown hgrow hb4 hml HI HZ0 HZ1
  generalize hgz : w.heap.size = gz at HX HGP ⊢
  have HGZ := Lib.hid hgz
  go_wp2_with fail
  refine (sLevel_any _ zs _ (HU.out.below HD.out) HN.out).mono ?_; rintro e w5 ⟨⟨q, rfl, hq⟩, hb5⟩
  obtain ⟨gl, capl, ls, rfl, hlsl, hlse, hlso⟩ := fres_row hq hpos
  have hrl : RW w4.heap.size w5 gl capl ls := by show w5.ownsRow _ _ _ (.slice _ ls.length _) ls.length _; rw [hlsl]; exact hlso
  have HNE := Lib.hid (show gl ≠ gz from by have := (hrl.lt gl rfl).1; have := (HX.out.lt gz rfl).2; omega)
  have HRL := Lib.hid (hrl.le HD.out.size)
  have HX5 := Lib.hid (HX.out.still hb5)
  have HP5 := Lib.hid ((hb5.block kp (Array.getElem?_eq_some_iff.1 HP4.out).1).trans HP4.out)
  have HD5 := Lib.hid (HD.out.trans (hb5.mono HD.out.size))
  have HLS := Lib.hid hlsl; have HLE := Lib.hid hlse
  have HWL := Lib.hid (show ∀ x ∈ ls, x < 2 ^ FloatKind.f32.format.width from (EqOn.eqs hlse hlsl).lt)
  clear hq hlsl hlse hlso hrl hb5
  go_wp2_with fail
  have hh := sSweeps_any a b R kp gz zs.length gl capl (List.replicate zs.length 0) ls w.heap.size _ HR.out HP5.out HGP.out (by rw [HGZ.out]; exact HX5.out) HRL.out HNE.out (by rw [List.length_replicate]; exact H1.out) (by rw [List.length_replicate]; exact HLS.out) (zeros_lt _) HWL.out
  rw [List.length_replicate] at hh
  refine hh.mono ?_; clear hh; rintro e w6 ⟨⟨es, rfl, hel, hew, hee, hve, _⟩, hg⟩
  have HVE := Lib.hid hve; have HEL := Lib.hid hel; have HEW := Lib.hid hew
  have HEE := Lib.hid (solveF_of H1.out HLE.out hel hee)
  have HD6 := Lib.hid (HD5.out.grown hg HD5.out.size (fun k e => by cases e; exact Nat.le_of_eq HGZ.out))
  clear hel hew hee hve hg
  go_wp2_with fail
  have hfs := HVE.out.fs HEW.out
  rw [HEL.out] at hfs
  refine (sLevel_any _ es _ hfs (by rw [HEL.out]; exact HN.out)).mono ?_; rintro e w7 ⟨⟨q, rfl, hq⟩, hb7⟩
  rw [HEL.out] at hq
  have HQ := Lib.hid ((fres_le hq HD6.out.size).congr HEE.out)
  have HD7 := Lib.hid (HD6.out.trans (hb7.mono HD6.out.size))
  clear hq hb7 hfs
  go_wp2_with fail
  go_ret
  rw [← HGZ.out]
  exact ⟨⟨_, rfl, HQ.out⟩, HD7.out⟩
end Go.Proofs.Ytjfnecmnofcjbaa
