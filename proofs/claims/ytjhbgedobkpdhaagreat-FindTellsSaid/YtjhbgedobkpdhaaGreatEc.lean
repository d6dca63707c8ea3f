/- Ported. -/
import Derived.Test.YtjhbgedobkpdhaaGreatEb
import Derived.Test.YtjhbgedobkpdhaaGreatL3
namespace Go.Proofs.YtjhbgedobkpdhaaGreat
set_option linter.unusedVariables false
set_option linter.unusedSimpArgs false
open Go.ChangeShapes Go.WideShapes Go.ChangeAt Go.RowKit
set_option maxRecDepth 8000 in
set_option maxHeartbeats 2000000 in
theorem tickOf_32 (F : Fv) (i : Int) (w : World) (hF : F.At w) (hN : F.cs = [] ∨ Full F.cs F.N) (hg : ∀ l ∈ F.cs, Good l) (hc : F.cn ≤ 10000) (i1 : -1152921504606846976 ≤ i) (i2 : i ≤ 1152921504606846976) (hne : cg F.cs F.P F.N i ≠ []) (v1 : -1125899906842624 ≤ F.P * i.fdiv F.N) (v2 : F.P * i.fdiv F.N ≤ 1125899906842624) :
    Calls Tryz.prog 61 #[F.v, .int .i64 i, .func (.func 31) #[] #[]] w fun e w' => e = .returned (.int .i64 (hullB (cg F.cs F.P F.N i))) ∧ Hid (Below w.heap.size w w') := by
  have HFU : Hid (Full F.cs F.N) := Lib.hid (by
    rcases hN with h | h
    · exact absurd (cg_out (fun f => by have h2 := f.2; have h1 := f.1; rw [h] at h2; simp at h2; omega)) hne
    · exact h)
  clear hN
  obtain ⟨P, N, co, cn, cc, oo, on, oc, cs, os⟩ := F
  have LC : Hid (cs.length = cn) := Lib.hid hF.core.len
  have LO : Hid (os.length = on) := Lib.hid hF.odd.len
  have hmc : cn ≤ 9223372036854775807 := Nat.le_trans hF.core.le hF.core.top
  have hmo : on ≤ 9223372036854775807 := Nat.le_trans hF.odd.le hF.odd.top
  obtain ⟨n0, n1⟩ := HFU.out
  have hN : N = (cn : Int) := by have := LC.out; simp only at n0 n1; omega
  subst hN
  have HFU : Hid (Full cs (cn : Int)) := HFU
  have hcp : (0 : Int) < (cn : Int) := n0
  have hcn : cn ≤ 10000 := hc
  have HG : Hid (∀ l ∈ cs, Good l) := Lib.hid hg
  have HM := Lib.hid (fmod_nat i hcp)
  have HCG := Lib.hid (cg_in (P := P) (i := i) HFU.out)
  have HCS : Hid (cset cs (cn : Int) i = cs.getD (i.fmod (cn : Int)).toNat []) := Lib.hid rfl
  have c0 : (cn : Int) ≠ 0 := by omega
  have c3 : ¬ (i = -9223372036854775808 ∧ (cn : Int) = -1) := by omega
  have HFL := Lib.hid (fun W => floor_ok i (cn : Int) W (by omega) (by omega) (by omega) (by omega) c0 c3)
  have hd1 : -9223372036854775808 ≤ i.fdiv (cn : Int) ∧ i.fdiv (cn : Int) ≤ 9223372036854775807 := fdiv_in i hcp (by omega) (by omega)
  obtain ⟨C, hC⟩ : ∃ C, cg cs P (cn : Int) i = C := ⟨_, rfl⟩
  have hne : C ≠ [] := by rw [← hC]; exact hne
  have v1 : -1125899906842624 ≤ P * i.fdiv (cn : Int) := v1
  have v2 : P * i.fdiv (cn : Int) ≤ 1125899906842624 := v2
  have HC2 := Lib.hid hC
  show Calls Tryz.prog 61 _ w fun e w' => e = .returned (.int .i64 (hullB (cg cs P (cn : Int) i))) ∧ Hid (Below w.heap.size w w')
  rw [hC] at HCG ⊢
  rw [Int.mul_comm P] at v1 v2 HCG
  obtain ⟨q, hq⟩ : ∃ q, i.fdiv (cn : Int) = q := ⟨_, rfl⟩
  obtain ⟨r, hr⟩ : ∃ q, i.fmod (cn : Int) = q := ⟨_, rfl⟩
  rw [hq] at HFL HCG v1 v2 hd1
  rw [hr] at HFL HM HCS
  obtain ⟨d1, d2⟩ := hd1
  obtain ⟨r1, r2⟩ := HM.out
  obtain ⟨k, rfl⟩ : ∃ k : Nat, r = (k : Int) := ⟨r.toNat, by omega⟩
  obtain ⟨y, hy⟩ : ∃ y, q * P = y := ⟨_, rfl⟩
  rw [hy] at v1 v2 HCG
  have hk : k < cs.length := by have := LC.out; omega
  have HL : Hid (cset cs (cn : Int) i = cs[k]'hk) := Lib.hid (by rw [HCS.out, Int.toNat_natCast, List.getD_eq_getElem?_getD, List.getElem?_eq_getElem hk]; rfl)
  rw [HL.out] at HCG
  have p1 := hF.p1
  have p2 := hF.p2
  have p1 : -9223372036854775808 ≤ P := p1
  have p2 : P ≤ 9223372036854775807 := p2
  obtain ⟨b, hb⟩ : ∃ b, w.heap.size = b := ⟨_, rfl⟩
  obtain ⟨wb, hwb⟩ : ∃ wb, w.alloc (.cells #[.int .i64 P, .int .i64 (cn : Int), .slice co cn cc, .slice oo on oc] 25) = wb := ⟨_, rfl⟩
  have HBB : Hid (Fbox ⟨P, (cn : Int), co, cn, cc, oo, on, oc, cs, os⟩ w wb b) := Lib.hid (by rw [← hwb, ← hb]; exact fbox_new hF)
  have HF := Lib.hid hF
  clear hF
  clear hc hg n0 n1 hq hr hC HC2
  show Calls Tryz.prog 61 #[.agg #[.int .i64 P, .int .i64 (cn : Int), .slice co cn cc, .slice oo on oc], .int .i64 i, .func (.func 31) #[] #[]] w _
  go_enter Tryz.func61, Tryz.ntmps61
  go_upto_region 1 with fail
  clear hwb hb
  have e0 : wb.cell? ⟨b, 0, none⟩ = some (.int .i64 P) := HBB.out.c0
  have e1 : wb.cell? ⟨b, 1, none⟩ = some (.int .i64 (cn : Int)) := HBB.out.c1
  go_wp2_with fail
  (with_reducible refine (HFL.out _).mono ?_)
  rintro e w4 ⟨rfl, nd, hw4⟩
  have HB4 : Hid (Below wb.heap.size wb w4) := Lib.hid (by rw [hw4]; exact below_drewN (Below.refl _ _) _)
  clear hw4 e0 e1
  have HBB := Lib.hid (HBB.out.keep HB4.out)
  obtain ⟨g, p, rfl, hcell⟩ := (show CoAt w4 co cn cc cs from HBB.out.at_.core).here (by omega)
  obtain ⟨o, m, d, c1, c2⟩ := hcell k hk
  have hmm : m ≤ 9223372036854775807 := Nat.le_trans c2.le c2.top
  have HCN : Hid (cs[k] ≠ []) := Lib.hid (fun z => by have := HCG.out; rw [z] at this; exact hne this)
  have HED := Lib.hid (fun W (h : Below w4.heap.size w4 W) => last_any o m d cs[k] W (c2.keep h) HCN.out)
  have hm0 : ¬ m = 0 := fun z => HCN.out (List.eq_nil_of_length_eq_zero (by rw [c2.len]; exact z))
  have t24 : ((m : Int) == 0) = false := by simp; exact hm0
  have HX : Hid (hullB C = hullB cs[k] + y) := Lib.hid (by rw [HCG.out, edgeB.mv _ _ HCN.out])
  have hrng := edgeB.rng _ (HG.out _ (List.getElem_mem hk)) HCN.out
  obtain ⟨x, hx⟩ : ∃ x, hullB cs[k] = x := ⟨_, rfl⟩
  rw [hx] at HED HX hrng
  obtain ⟨x1, x2⟩ := hrng
  have k0 : (0 : Int) ≤ (k : Int) := by omega
  have k1 : (k : Int) < (cn : Int) := by omega
  have e0 : w4.cell? ⟨b, 0, none⟩ = some (.int .i64 P) := HBB.out.c0
  have e2 : w4.cell? ⟨b, 2, none⟩ = some (.slice (some ⟨g, p, none⟩) cn cc) := HBB.out.c2
  clear hx hcell c2 hm0 hne
  go_upto_region 4 with fail
  go_quiet ((first | (go_at_call 31; with_reducible exact Calls.quiet_of_same (HED.out _ (below_drewN (Below.refl _ _) _))) | fail))
  go_wp2
  go_returns
  exact ⟨by rw [HX.out]; rfl, Lib.hid (below_drewN HBB.out.bw _)⟩
set_option maxRecDepth 8000 in
set_option maxHeartbeats 2000000 in
theorem tickOf_36 (F : Fv) (i : Int) (w : World) (hF : F.At w) (hN : F.cs = [] ∨ Full F.cs F.N) (hg : ∀ l ∈ F.cs, Good l) (hc : F.cn ≤ 10000) (i1 : -1152921504606846976 ≤ i) (i2 : i ≤ 1152921504606846976) (hne : cg F.cs F.P F.N i ≠ []) (v1 : -1125899906842624 ≤ F.P * i.fdiv F.N) (v2 : F.P * i.fdiv F.N ≤ 1125899906842624) :
    Calls Tryz.prog 61 #[F.v, .int .i64 i, .func (.func 36) #[] #[]] w fun e w' => e = .returned (.int .i64 (hullA (cg F.cs F.P F.N i))) ∧ Hid (Below w.heap.size w w') := by
  have HFU : Hid (Full F.cs F.N) := Lib.hid (by
    rcases hN with h | h
    · exact absurd (cg_out (fun f => by have h2 := f.2; have h1 := f.1; rw [h] at h2; simp at h2; omega)) hne
    · exact h)
  clear hN
  obtain ⟨P, N, co, cn, cc, oo, on, oc, cs, os⟩ := F
  have LC : Hid (cs.length = cn) := Lib.hid hF.core.len
  have LO : Hid (os.length = on) := Lib.hid hF.odd.len
  have hmc : cn ≤ 9223372036854775807 := Nat.le_trans hF.core.le hF.core.top
  have hmo : on ≤ 9223372036854775807 := Nat.le_trans hF.odd.le hF.odd.top
  obtain ⟨n0, n1⟩ := HFU.out
  have hN : N = (cn : Int) := by have := LC.out; simp only at n0 n1; omega
  subst hN
  have HFU : Hid (Full cs (cn : Int)) := HFU
  have hcp : (0 : Int) < (cn : Int) := n0
  have hcn : cn ≤ 10000 := hc
  have HG : Hid (∀ l ∈ cs, Good l) := Lib.hid hg
  have HM := Lib.hid (fmod_nat i hcp)
  have HCG := Lib.hid (cg_in (P := P) (i := i) HFU.out)
  have HCS : Hid (cset cs (cn : Int) i = cs.getD (i.fmod (cn : Int)).toNat []) := Lib.hid rfl
  have c0 : (cn : Int) ≠ 0 := by omega
  have c3 : ¬ (i = -9223372036854775808 ∧ (cn : Int) = -1) := by omega
  have HFL := Lib.hid (fun W => floor_ok i (cn : Int) W (by omega) (by omega) (by omega) (by omega) c0 c3)
  have hd1 : -9223372036854775808 ≤ i.fdiv (cn : Int) ∧ i.fdiv (cn : Int) ≤ 9223372036854775807 := fdiv_in i hcp (by omega) (by omega)
  obtain ⟨C, hC⟩ : ∃ C, cg cs P (cn : Int) i = C := ⟨_, rfl⟩
  have hne : C ≠ [] := by rw [← hC]; exact hne
  have v1 : -1125899906842624 ≤ P * i.fdiv (cn : Int) := v1
  have v2 : P * i.fdiv (cn : Int) ≤ 1125899906842624 := v2
  have HC2 := Lib.hid hC
  show Calls Tryz.prog 61 _ w fun e w' => e = .returned (.int .i64 (hullA (cg cs P (cn : Int) i))) ∧ Hid (Below w.heap.size w w')
  rw [hC] at HCG ⊢
  rw [Int.mul_comm P] at v1 v2 HCG
  obtain ⟨q, hq⟩ : ∃ q, i.fdiv (cn : Int) = q := ⟨_, rfl⟩
  obtain ⟨r, hr⟩ : ∃ q, i.fmod (cn : Int) = q := ⟨_, rfl⟩
  rw [hq] at HFL HCG v1 v2 hd1
  rw [hr] at HFL HM HCS
  obtain ⟨d1, d2⟩ := hd1
  obtain ⟨r1, r2⟩ := HM.out
  obtain ⟨k, rfl⟩ : ∃ k : Nat, r = (k : Int) := ⟨r.toNat, by omega⟩
  obtain ⟨y, hy⟩ : ∃ y, q * P = y := ⟨_, rfl⟩
  rw [hy] at v1 v2 HCG
  have hk : k < cs.length := by have := LC.out; omega
  have HL : Hid (cset cs (cn : Int) i = cs[k]'hk) := Lib.hid (by rw [HCS.out, Int.toNat_natCast, List.getD_eq_getElem?_getD, List.getElem?_eq_getElem hk]; rfl)
  rw [HL.out] at HCG
  have p1 := hF.p1
  have p2 := hF.p2
  have p1 : -9223372036854775808 ≤ P := p1
  have p2 : P ≤ 9223372036854775807 := p2
  obtain ⟨b, hb⟩ : ∃ b, w.heap.size = b := ⟨_, rfl⟩
  obtain ⟨wb, hwb⟩ : ∃ wb, w.alloc (.cells #[.int .i64 P, .int .i64 (cn : Int), .slice co cn cc, .slice oo on oc] 25) = wb := ⟨_, rfl⟩
  have HBB : Hid (Fbox ⟨P, (cn : Int), co, cn, cc, oo, on, oc, cs, os⟩ w wb b) := Lib.hid (by rw [← hwb, ← hb]; exact fbox_new hF)
  have HF := Lib.hid hF
  clear hF
  clear hc hg n0 n1 hq hr hC HC2
  show Calls Tryz.prog 61 #[.agg #[.int .i64 P, .int .i64 (cn : Int), .slice co cn cc, .slice oo on oc], .int .i64 i, .func (.func 36) #[] #[]] w _
  go_enter Tryz.func61, Tryz.ntmps61
  go_upto_region 1 with fail
  clear hwb hb
  have e0 : wb.cell? ⟨b, 0, none⟩ = some (.int .i64 P) := HBB.out.c0
  have e1 : wb.cell? ⟨b, 1, none⟩ = some (.int .i64 (cn : Int)) := HBB.out.c1
  go_wp2_with fail
  (with_reducible refine (HFL.out _).mono ?_)
  rintro e w4 ⟨rfl, nd, hw4⟩
  have HB4 : Hid (Below wb.heap.size wb w4) := Lib.hid (by rw [hw4]; exact below_drewN (Below.refl _ _) _)
  clear hw4 e0 e1
  have HBB := Lib.hid (HBB.out.keep HB4.out)
  obtain ⟨g, p, rfl, hcell⟩ := (show CoAt w4 co cn cc cs from HBB.out.at_.core).here (by omega)
  obtain ⟨o, m, d, c1, c2⟩ := hcell k hk
  have hmm : m ≤ 9223372036854775807 := Nat.le_trans c2.le c2.top
  have HCN : Hid (cs[k] ≠ []) := Lib.hid (fun z => by have := HCG.out; rw [z] at this; exact hne this)
  have HED := Lib.hid (fun W (h : Below w4.heap.size w4 W) => first_any o m d cs[k] W (c2.keep h) HCN.out)
  have hm0 : ¬ m = 0 := fun z => HCN.out (List.eq_nil_of_length_eq_zero (by rw [c2.len]; exact z))
  have t24 : ((m : Int) == 0) = false := by simp; exact hm0
  have HX : Hid (hullA C = hullA cs[k] + y) := Lib.hid (by rw [HCG.out, edgeA.mv _ _ HCN.out])
  have hrng := edgeA.rng _ (HG.out _ (List.getElem_mem hk)) HCN.out
  obtain ⟨x, hx⟩ : ∃ x, hullA cs[k] = x := ⟨_, rfl⟩
  rw [hx] at HED HX hrng
  obtain ⟨x1, x2⟩ := hrng
  have k0 : (0 : Int) ≤ (k : Int) := by omega
  have k1 : (k : Int) < (cn : Int) := by omega
  have e0 : w4.cell? ⟨b, 0, none⟩ = some (.int .i64 P) := HBB.out.c0
  have e2 : w4.cell? ⟨b, 2, none⟩ = some (.slice (some ⟨g, p, none⟩) cn cc) := HBB.out.c2
  clear hx hcell c2 hm0 hne
  go_upto_region 4 with fail
  go_quiet ((first | (go_at_call 36; with_reducible exact Calls.quiet_of_same (HED.out _ (below_drewN (Below.refl _ _) _))) | fail))
  go_wp2
  go_returns
  exact ⟨by rw [HX.out]; rfl, Lib.hid (below_drewN HBB.out.bw _)⟩
/-- What is told: an index, and whether there is one. -/
def IbOut (p : Int → Bool → Prop) (e : Ending) : Prop := ∃ (i : Int) (ok : Bool), e = .returned (.tuple #[.int .i64 i, .bool ok]) ∧ p i ok
set_option maxHeartbeats 1000000 in
theorem bare_any (F : Fv) (w : World) (hF : F.At w) : Calls Tryz.prog 63 #[F.v] w fun e w' => e = .returned (.agg #[.int .i64 F.P, .int .i64 F.N, .slice F.co F.cn F.cc, .slice none 0 0]) ∧ Hid (Below w.heap.size w w') := by
  obtain ⟨P, N, co, cn, cc, oo, on, oc, cs, os⟩ := F
  have LC : Hid (cs.length = cn) := Lib.hid hF.core.len
  have LO : Hid (os.length = on) := Lib.hid hF.odd.len
  have hmc : cn ≤ 9223372036854775807 := Nat.le_trans hF.core.le hF.core.top
  have hmo : on ≤ 9223372036854775807 := Nat.le_trans hF.odd.le hF.odd.top
  clear LC LO hmc hmo hF
  obtain ⟨b, hb⟩ : ∃ b, w.heap.size = b := ⟨_, rfl⟩
  show Calls Tryz.prog 63 #[.agg #[.int .i64 P, .int .i64 N, .slice co cn cc, .slice oo on oc]] w _
  go_enter Tryz.func63, Tryz.ntmps63
  go_wp2
  rw [hb]
  generalize hwf : (w.alloc (.cells #[.int .i64 P, .int .i64 N, .slice co cn cc, .slice none 0 0] 25)).alloc (.cells #[.int .i64 P, .int .i64 N, .slice co cn cc, .slice none 0 0] 25) = wf
  have k1 : wf.heap[b + 1]? = some (.cells #[.int .i64 P, .int .i64 N, .slice co cn cc, .slice none 0 0] 25 (0, 0)) := by
    rw [← hwf]; exact heap_at (by simp; omega)
  have HB : Hid (Below w.heap.size w wf) := Lib.hid (by rw [← hwf]; exact ((Below.refl _ w).alloc (Nat.le_refl _) _).alloc (by simp) _)
  clear hwf
  have r0 : wf.cell? ⟨b + 1, 0, none⟩ = some (.int .i64 P) := cell_block k1 0
  have r1 : wf.cell? ⟨b + 1, 1, none⟩ = some (.int .i64 N) := cell_block k1 1
  have r2 : wf.cell? ⟨b + 1, 2, none⟩ = some (.slice co cn cc) := cell_block k1 2
  have r3 : wf.cell? ⟨b + 1, 3, none⟩ = some (.slice none 0 0) := cell_block k1 3
  exact bodyPost_ret (v := .agg #[.int .i64 P, .int .i64 N, .slice co cn cc, .slice none 0 0]) (by simp [results, Tryz.results63, go_sem, r0, r1, r2, r3]) rfl ⟨rfl, Lib.hid (by rw [← hb]; exact HB.out)⟩
set_option maxHeartbeats 1000000 in
theorem oddBefore_any (F : Fv) (n : Nat) (w : World) (hF : F.At w) (hn : n ≤ F.on) (hn2 : n ≤ 1000000) : Calls Tryz.prog 33 #[F.v, .int .i64 (n : Int)] w fun e w' => IbOut (EarlyIs F.os n) e ∧ Hid (Below w.heap.size w w') := by
  obtain ⟨P, N, co, cn, cc, oo, on, oc, cs, os⟩ := F
  have LC : Hid (cs.length = cn) := Lib.hid hF.core.len
  have LO : Hid (os.length = on) := Lib.hid hF.odd.len
  have hmc : cn ≤ 9223372036854775807 := Nat.le_trans hF.core.le hF.core.top
  have hmo : on ≤ 9223372036854775807 := Nat.le_trans hF.odd.le hF.odd.top
  obtain ⟨b, hb⟩ : ∃ b, w.heap.size = b := ⟨_, rfl⟩
  obtain ⟨wb, hwb⟩ : ∃ wb, w.alloc (.cells #[.int .i64 P, .int .i64 N, .slice co cn cc, .slice oo on oc] 25) = wb := ⟨_, rfl⟩
  have HBB : Hid (Fbox ⟨P, N, co, cn, cc, oo, on, oc, cs, os⟩ w wb b) := Lib.hid (by rw [← hwb, ← hb]; exact fbox_new hF)
  have HF := Lib.hid hF
  clear hF
  show Calls Tryz.prog 33 #[.agg #[.int .i64 P, .int .i64 N, .slice co cn cc, .slice oo on oc], .int .i64 (n : Int)] w _
  go_enter Tryz.func33, Tryz.ntmps33
  go_upto_region 1 with fail
  clear hwb hb
  have e0 : wb.cell? ⟨b, 0, none⟩ = some (.int .i64 P) := HBB.out.c0
  have e1 : wb.cell? ⟨b, 1, none⟩ = some (.int .i64 N) := HBB.out.c1
  have e2 : wb.cell? ⟨b, 2, none⟩ = some (.slice co cn cc) := HBB.out.c2
  have e3 : wb.cell? ⟨b, 3, none⟩ = some (.slice oo on oc) := HBB.out.c3
  have hn : n ≤ on := hn
  have H0 : Hid (∀ j (h : j < os.length), (n : Int) - 1 < (j : Int) → j < n → os[j].2 = []) := Lib.hid (fun j h a b => by omega)
  go_wp2_with fail
  go_loop [1] (fun a => ∃ i : Int, -1 ≤ i ∧ i ≤ (n : Int) - 1 ∧ a = .int .i64 i ∧ Hid (∀ j (h : j < os.length), i < (j : Int) → j < n → os[j].2 = [])) (fun a => (intOf a + 1).toNat)
  case atStart => exact ⟨(n : Int) - 1, by omega, by omega, rfl, H0⟩
  case round =>
    clear H0
    obtain ⟨i, i1, i2, rfl, HI⟩ := hrel
    by_cases il : i < 0
    · have t9 : decide (0 ≤ i) = false := by simp; omega
      have hil : ¬ 0 ≤ i := by omega
      have HZ : Hid (EarlyIs os n 0 false) := Lib.hid ⟨(fun z => by cases z), fun _ j h q => HI.out j h (by omega) q⟩
      go_wp2
      go_returns
      exact ⟨⟨0, false, rfl, HZ.out⟩, Lib.hid HBB.out.bw⟩
    · obtain ⟨k, rfl⟩ : ∃ k : Nat, i = (k : Int) := ⟨i.toNat, by omega⟩
      have hk : k < os.length := by have := LO.out; omega
      have k0 : (0 : Int) ≤ (k : Int) := by omega
      have k1 : (k : Int) < (on : Int) := by omega
      have t9 : decide ((0 : Int) ≤ (k : Int)) = true := by simp
      obtain ⟨g, p, rfl, hcell⟩ := (show OdAt wb oo on oc os from HBB.out.at_.odd).here (by omega)
      obtain ⟨c0, ⟨o, m, d, c1, c2⟩, x1, x2⟩ := hcell k hk
      have hmm : m ≤ 9223372036854775807 := Nat.le_trans c2.le c2.top
      have HML := Lib.hid c2.len
      have HKK := Lib.hid hk
      clear hcell c2
      by_cases hm0 : m = 0
      · have t19 : decide ((0 : Int) < (m : Int)) = false := by simp; exact hm0
        have hm1 : ¬ 0 < m := by omega
        have HI2 : Hid (∀ j (h : j < os.length), (k : Int) - 1 < (j : Int) → j < n → os[j].2 = []) := Lib.hid (fun j h a b => by
          by_cases q : j = k
          · subst q; exact List.eq_nil_of_length_eq_zero (by rw [HML.out]; exact hm0)
          · exact HI.out j h (by omega) b)
        go_wp2
        go_round
        case rel => exact ⟨(k : Int) - 1, by omega, by omega, rfl, HI2⟩
        case measure => first | (simp [intOf]; done) | (simp [intOf]; omega)
      · have t19 : decide ((0 : Int) < (m : Int)) = true := by simp; omega
        have hm1 : 0 < m := by omega
        have HZ : Hid (EarlyIs os n (os[k]'hk).1 true) := Lib.hid ⟨fun _ => ⟨k, hk, by omega, fun z => by have := HML.out; rw [z] at this; simp at this; omega, rfl, fun j h a b => HI.out j h (by omega) b⟩, fun z => by cases z⟩
        obtain ⟨X, hX⟩ : ∃ X, (os[k]'hk).1 = X := ⟨_, rfl⟩
        rw [hX] at c0 x1 x2 HZ
        clear hX
        go_wp2
        go_returns
        exact ⟨⟨X, true, rfl, HZ.out⟩, Lib.hid HBB.out.bw⟩
/-- The set of a granule that exists. -/
def ExOut (F : Fv) (i : Int) (e : Ending) (w : World) : Prop := ∃ (ao : Option Addr) (n c : Nat) (L : List Sp) (ok : Bool), e = .returned (.tuple #[.slice ao n c, .bool ok]) ∧ SpAt w ao n c L ∧ (ok = true ↔ Ex F i) ∧ (ok = true → L = gr F i)
set_option maxHeartbeats 1000000 in
theorem exists_any (F : Fv) (i : Int) (w : World) (hF : F.At w) (ok : F.Ok) : Calls Tryz.prog 25 #[F.v, .int .i64 i] w fun e w' => ExOut F i e w' ∧ Hid (Below w.heap.size w w') := by
  obtain ⟨G, hG⟩ : ∃ G, gr F i = G := ⟨_, rfl⟩
  have HGG := Lib.hid hG
  have HGT := Lib.hid (fun W h => get_any2 F i W h ok G hG)
  clear hG ok
  obtain ⟨P, N, co, cn, cc, oo, on, oc, cs, os⟩ := F
  have LC : Hid (cs.length = cn) := Lib.hid hF.core.len
  have LO : Hid (os.length = on) := Lib.hid hF.odd.len
  have hmc : cn ≤ 9223372036854775807 := Nat.le_trans hF.core.le hF.core.top
  have hmo : on ≤ 9223372036854775807 := Nat.le_trans hF.odd.le hF.odd.top
  obtain ⟨b, hb⟩ : ∃ b, w.heap.size = b := ⟨_, rfl⟩
  obtain ⟨wb, hwb⟩ : ∃ wb, w.alloc (.cells #[.int .i64 P, .int .i64 N, .slice co cn cc, .slice oo on oc] 25) = wb := ⟨_, rfl⟩
  have HBB : Hid (Fbox ⟨P, N, co, cn, cc, oo, on, oc, cs, os⟩ w wb b) := Lib.hid (by rw [← hwb, ← hb]; exact fbox_new hF)
  have HF := Lib.hid hF
  clear hF
  show Calls Tryz.prog 25 #[.agg #[.int .i64 P, .int .i64 N, .slice co cn cc, .slice oo on oc], .int .i64 i] w _
  go_enter Tryz.func25, Tryz.ntmps25
  go_upto_region 1 with fail
  clear hwb hb
  have e0 : wb.cell? ⟨b, 0, none⟩ = some (.int .i64 P) := HBB.out.c0
  have e1 : wb.cell? ⟨b, 1, none⟩ = some (.int .i64 N) := HBB.out.c1
  have e2 : wb.cell? ⟨b, 2, none⟩ = some (.slice co cn cc) := HBB.out.c2
  have e3 : wb.cell? ⟨b, 3, none⟩ = some (.slice oo on oc) := HBB.out.c3
  have HGT : Hid (∀ W, Fv.At ⟨P, N, co, cn, cc, oo, on, oc, cs, os⟩ W → Calls Tryz.prog 55 #[.agg #[.int .i64 P, .int .i64 N, .slice co cn cc, .slice oo on oc], .int .i64 i] W fun e w' => ∃ (ao : Option Addr) (n c : Nat) (L : List Sp) (k : Int), e = .returned (.tuple #[.slice ao n c, .int .i64 k]) ∧ Hid (Below W.heap.size W w') ∧ Hid (SpAt w' ao n c L) ∧ ((k = 0 ∧ Hid (Told i G ∧ L = G)) ∨ (k = 20 ∧ n = 0 ∧ Hid (¬ Told i G)))) := HGT
  go_wp2_with fail
  (with_reducible refine (HGT.out _ HBB.out.at_).mono ?_)
  rintro e w4 ⟨ao, n, c, L, k, rfl, q, HS, dk⟩
  have HBW := Lib.hid (HBB.out.bw.trans (q.out.mono HBB.out.bw.size))
  have hnm : n ≤ 9223372036854775807 := Nat.le_trans HS.out.le HS.out.top
  clear q HGT
  rcases dk with ⟨rfl, HT⟩ | ⟨rfl, rfl, HT⟩
  · by_cases hn : n = 0
    · subst hn
      have HX : Hid (ExOut ⟨P, N, co, cn, cc, oo, on, oc, cs, os⟩ i (.returned (.tuple #[.slice ao 0 c, .bool false])) w4) := Lib.hid ⟨ao, 0, c, L, false, rfl, HS.out, ⟨(fun z => by cases z), fun z => absurd (by rw [HGG.out, ← HT.out.2]; exact List.eq_nil_of_length_eq_zero (by rw [HS.out.len])) z.2.2⟩, (fun z => by cases z)⟩
      go_wp2
      go_returns
      exact ⟨HX.out, HBW⟩
    · have t20 : decide ((0 : Int) < (n : Int)) = true := by simp; omega
      have hn1 : 0 < n := by omega
      have HX : Hid (ExOut ⟨P, N, co, cn, cc, oo, on, oc, cs, os⟩ i (.returned (.tuple #[.slice ao n c, .bool true])) w4) := Lib.hid ⟨ao, n, c, L, true, rfl, HS.out, ⟨fun _ => ⟨HT.out.1.1, by rw [HGG.out]; exact HT.out.1.2, by rw [HGG.out, ← HT.out.2]; intro z; have := HS.out.len; rw [z] at this; simp at this; omega⟩, fun _ => rfl⟩, fun _ => by rw [HGG.out]; exact HT.out.2⟩
      go_wp2
      go_returns
      exact ⟨HX.out, HBW⟩
  · have HX : Hid (ExOut ⟨P, N, co, cn, cc, oo, on, oc, cs, os⟩ i (.returned (.tuple #[.slice ao 0 c, .bool false])) w4) := Lib.hid ⟨ao, 0, c, L, false, rfl, HS.out, ⟨(fun z => by cases z), fun z => absurd (⟨z.1, by rw [← HGG.out]; exact z.2.1⟩ : Told i G) HT.out⟩, (fun z => by cases z)⟩
    go_wp2
    go_returns
    exact ⟨HX.out, HBW⟩
set_option maxHeartbeats 1000000 in
theorem existing_any (F : Fv) (i : Int) (k : Bool) (w : World) (hF : F.At w) (ok : F.Ok) (r : Bool) (hr : r = true ↔ k = true ∧ Ex F i) : Calls Tryz.prog 35 #[F.v, .int .i64 i, .bool k] w fun e w' => IbOut (fun j b => b = r ∧ (r = true → j = i) ∧ (r = false → j = 0)) e ∧ Hid (Below w.heap.size w w') := by
  have HXX := Lib.hid (fun W h => exists_any F i W h ok)
  have HR := Lib.hid hr
  clear ok hr
  obtain ⟨P, N, co, cn, cc, oo, on, oc, cs, os⟩ := F
  have LC : Hid (cs.length = cn) := Lib.hid hF.core.len
  have LO : Hid (os.length = on) := Lib.hid hF.odd.len
  have hmc : cn ≤ 9223372036854775807 := Nat.le_trans hF.core.le hF.core.top
  have hmo : on ≤ 9223372036854775807 := Nat.le_trans hF.odd.le hF.odd.top
  obtain ⟨b, hb⟩ : ∃ b, w.heap.size = b := ⟨_, rfl⟩
  obtain ⟨wb, hwb⟩ : ∃ wb, w.alloc (.cells #[.int .i64 P, .int .i64 N, .slice co cn cc, .slice oo on oc] 25) = wb := ⟨_, rfl⟩
  have HBB : Hid (Fbox ⟨P, N, co, cn, cc, oo, on, oc, cs, os⟩ w wb b) := Lib.hid (by rw [← hwb, ← hb]; exact fbox_new hF)
  have HF := Lib.hid hF
  clear hF
  show Calls Tryz.prog 35 #[.agg #[.int .i64 P, .int .i64 N, .slice co cn cc, .slice oo on oc], .int .i64 i, .bool k] w _
  go_enter Tryz.func35, Tryz.ntmps35
  go_upto_region 1 with fail
  clear hwb hb
  have e0 : wb.cell? ⟨b, 0, none⟩ = some (.int .i64 P) := HBB.out.c0
  have e1 : wb.cell? ⟨b, 1, none⟩ = some (.int .i64 N) := HBB.out.c1
  have e2 : wb.cell? ⟨b, 2, none⟩ = some (.slice co cn cc) := HBB.out.c2
  have e3 : wb.cell? ⟨b, 3, none⟩ = some (.slice oo on oc) := HBB.out.c3
  have HXX : Hid (∀ W, Fv.At ⟨P, N, co, cn, cc, oo, on, oc, cs, os⟩ W → Calls Tryz.prog 25 #[.agg #[.int .i64 P, .int .i64 N, .slice co cn cc, .slice oo on oc], .int .i64 i] W fun e w' => ExOut ⟨P, N, co, cn, cc, oo, on, oc, cs, os⟩ i e w' ∧ Hid (Below W.heap.size W w')) := HXX
  cases k
  · have HZ : Hid (false = r) := Lib.hid (by cases r; rfl; have := (HR.out.1 rfl).1; cases this)
    go_wp2
    go_returns
    exact ⟨⟨0, false, rfl, HZ.out, (fun z => by rw [← HZ.out] at z; cases z), fun _ => rfl⟩, Lib.hid HBB.out.bw⟩
  · go_wp2_with fail
    (with_reducible refine (HXX.out _ HBB.out.at_).mono ?_)
    rintro e w4 ⟨⟨ao, n, c, L, ok, rfl, hs, h1, h2⟩, q⟩
    have HBW := Lib.hid (HBB.out.bw.trans (q.out.mono HBB.out.bw.size))
    have HZ : Hid (ok = r) := Lib.hid (by
      cases ok <;> cases r
      · rfl
      · have := h1.2 (HR.out.1 rfl).2; cases this
      · have := HR.out.2 ⟨by first | rfl | trivial, h1.1 rfl⟩; cases this
      · rfl)
    clear q hs h1 h2 HXX
    cases ok
    · go_wp2
      go_returns
      exact ⟨⟨0, false, rfl, HZ.out, (fun z => by rw [← HZ.out] at z; cases z), fun _ => rfl⟩, HBW⟩
    · go_wp2
      go_returns
      exact ⟨⟨i, true, rfl, HZ.out, (fun _ => rfl), (fun z => by rw [← HZ.out] at z; cases z)⟩, HBW⟩
set_option maxHeartbeats 1000000 in
theorem behind2_any (F : Fv) (i : Int) (w : World) (hF : F.At w) (ok : F.Ok) (hi1 : -9223372036854775808 ≤ i) (hi2 : i ≤ 9223372036854775807) : Calls Tryz.prog 34 #[F.v, .int .i64 i] w fun e w' => IbOut (UpIs F i) e ∧ Hid (Below w.heap.size w w') := by
  have HNR := Lib.hid (fun M W h (m1 : -2199023255552 ≤ M) (m2 : M ≤ 2199023255552) => near_up F M W h ok m1 m2)
  clear ok
  obtain ⟨P, N, co, cn, cc, oo, on, oc, cs, os⟩ := F
  have LC : Hid (cs.length = cn) := Lib.hid hF.core.len
  have LO : Hid (os.length = on) := Lib.hid hF.odd.len
  have hmc : cn ≤ 9223372036854775807 := Nat.le_trans hF.core.le hF.core.top
  have hmo : on ≤ 9223372036854775807 := Nat.le_trans hF.odd.le hF.odd.top
  obtain ⟨b, hb⟩ : ∃ b, w.heap.size = b := ⟨_, rfl⟩
  obtain ⟨wb, hwb⟩ : ∃ wb, w.alloc (.cells #[.int .i64 P, .int .i64 N, .slice co cn cc, .slice oo on oc] 25) = wb := ⟨_, rfl⟩
  have HBB : Hid (Fbox ⟨P, N, co, cn, cc, oo, on, oc, cs, os⟩ w wb b) := Lib.hid (by rw [← hwb, ← hb]; exact fbox_new hF)
  have HF := Lib.hid hF
  clear hF
  show Calls Tryz.prog 34 #[.agg #[.int .i64 P, .int .i64 N, .slice co cn cc, .slice oo on oc], .int .i64 i] w _
  go_enter Tryz.func34, Tryz.ntmps34
  go_upto_region 1 with fail
  clear hwb hb
  have e0 : wb.cell? ⟨b, 0, none⟩ = some (.int .i64 P) := HBB.out.c0
  have e1 : wb.cell? ⟨b, 1, none⟩ = some (.int .i64 N) := HBB.out.c1
  have e2 : wb.cell? ⟨b, 2, none⟩ = some (.slice co cn cc) := HBB.out.c2
  have e3 : wb.cell? ⟨b, 3, none⟩ = some (.slice oo on oc) := HBB.out.c3
  have HNR : Hid (∀ M W, Fv.At ⟨P, N, co, cn, cc, oo, on, oc, cs, os⟩ W → -2199023255552 ≤ M → M ≤ 2199023255552 → Calls Tryz.prog 62 #[.agg #[.int .i64 P, .int .i64 N, .slice co cn cc, .slice oo on oc], .int .i64 M, .int .i64 1] W fun e w' => NearOut ⟨P, N, co, cn, cc, oo, on, oc, cs, os⟩ M 1 e ∧ Hid (Below W.heap.size W w')) := HNR
  by_cases h1 : 1099511627776 ≤ i
  · go_wp2
    go_returns
    exact ⟨⟨0, false, rfl, (fun z => by cases z), fun _ k k1 k2 => by have := k2.1; have := k2.2; omega⟩, Lib.hid HBB.out.bw⟩
  · obtain ⟨M, hM⟩ : ∃ M, max i (-1099511627777) = M := ⟨_, rfl⟩
    have hM1 : -2199023255552 ≤ M := by omega
    have hM2 : M ≤ 2199023255552 := by omega
    have HMI : Hid ((M = i ∨ M = (-1099511627777)) ∧ max i (-1099511627777) = M) := Lib.hid ⟨by omega, hM⟩
    go_wp2_with fail
    (with_reducible refine (HNR.out _ _ HBB.out.at_ hM1 hM2).mono ?_)
    rintro e w2 ⟨⟨j, ok, rfl, hn⟩, q⟩
    have HN := Lib.hid hn
    have HBW := Lib.hid (HBB.out.bw.trans (q.out.mono HBB.out.bw.size))
    have hj1 := hn.low
    have hj2 := hn.high
    clear hn q
    have HK : Hid (∀ k, i < k → InR k → M * 1 < k * 1) := Lib.hid (fun k a b => by have := b.1; have := b.2; have := HMI.out; omega)
    cases ok
    · have HZ : Hid (UpIs ⟨P, N, co, cn, cc, oo, on, oc, cs, os⟩ i 0 false) := Lib.hid ⟨(fun z => by cases z), fun _ k k1 k2 => HN.out.no rfl k (HK.out k k1 k2)⟩
      clear hM
      go_wp2
      go_returns
      exact ⟨⟨0, false, rfl, HZ.out⟩, HBW⟩
    · have HY := Lib.hid (HN.out.yes rfl)
      by_cases h2 : 1099511627776 < j
      · have HZ : Hid (UpIs ⟨P, N, co, cn, cc, oo, on, oc, cs, os⟩ i 0 false) := Lib.hid ⟨(fun z => by cases z), fun _ k k1 k2 => HY.out.2.2 k (HK.out k k1 k2) (by have := k2.1; have := k2.2; omega)⟩
        clear hM
        go_wp2
        go_returns
        exact ⟨⟨0, false, rfl, HZ.out⟩, HBW⟩
      · have HZ : Hid (UpIs ⟨P, N, co, cn, cc, oo, on, oc, cs, os⟩ i j true) := Lib.hid (by
          have h3 := HY.out.1
          have h4 := HMI.out
          have h5 : InR j := ⟨by omega, by omega⟩
          exact ⟨fun _ => ⟨h5, by omega, HY.out.2.1, fun k k1 k2 k3 => HY.out.2.2 k (HK.out k (by omega) k3) (by omega)⟩, fun z => by cases z⟩)
        clear hM
        go_wp2
        go_returns
        exact ⟨⟨j, true, rfl, HZ.out⟩, HBW⟩
set_option maxHeartbeats 1000000 in
theorem before2_any (F : Fv) (i : Int) (w : World) (hF : F.At w) (ok : F.Ok) (hi1 : -9223372036854775808 ≤ i) (hi2 : i ≤ 9223372036854775807) : Calls Tryz.prog 38 #[F.v, .int .i64 i] w fun e w' => IbOut (DnIs F i) e ∧ Hid (Below w.heap.size w w') := by
  have HNR := Lib.hid (fun M W h (m1 : -2199023255552 ≤ M) (m2 : M ≤ 2199023255552) => near_dn F M W h ok m1 m2)
  clear ok
  obtain ⟨P, N, co, cn, cc, oo, on, oc, cs, os⟩ := F
  have LC : Hid (cs.length = cn) := Lib.hid hF.core.len
  have LO : Hid (os.length = on) := Lib.hid hF.odd.len
  have hmc : cn ≤ 9223372036854775807 := Nat.le_trans hF.core.le hF.core.top
  have hmo : on ≤ 9223372036854775807 := Nat.le_trans hF.odd.le hF.odd.top
  obtain ⟨b, hb⟩ : ∃ b, w.heap.size = b := ⟨_, rfl⟩
  obtain ⟨wb, hwb⟩ : ∃ wb, w.alloc (.cells #[.int .i64 P, .int .i64 N, .slice co cn cc, .slice oo on oc] 25) = wb := ⟨_, rfl⟩
  have HBB : Hid (Fbox ⟨P, N, co, cn, cc, oo, on, oc, cs, os⟩ w wb b) := Lib.hid (by rw [← hwb, ← hb]; exact fbox_new hF)
  have HF := Lib.hid hF
  clear hF
  show Calls Tryz.prog 38 #[.agg #[.int .i64 P, .int .i64 N, .slice co cn cc, .slice oo on oc], .int .i64 i] w _
  go_enter Tryz.func38, Tryz.ntmps38
  go_upto_region 1 with fail
  clear hwb hb
  have e0 : wb.cell? ⟨b, 0, none⟩ = some (.int .i64 P) := HBB.out.c0
  have e1 : wb.cell? ⟨b, 1, none⟩ = some (.int .i64 N) := HBB.out.c1
  have e2 : wb.cell? ⟨b, 2, none⟩ = some (.slice co cn cc) := HBB.out.c2
  have e3 : wb.cell? ⟨b, 3, none⟩ = some (.slice oo on oc) := HBB.out.c3
  have HNR : Hid (∀ M W, Fv.At ⟨P, N, co, cn, cc, oo, on, oc, cs, os⟩ W → -2199023255552 ≤ M → M ≤ 2199023255552 → Calls Tryz.prog 62 #[.agg #[.int .i64 P, .int .i64 N, .slice co cn cc, .slice oo on oc], .int .i64 M, .int .i64 (-1)] W fun e w' => NearOut ⟨P, N, co, cn, cc, oo, on, oc, cs, os⟩ M (-1) e ∧ Hid (Below W.heap.size W w')) := HNR
  by_cases h1 : i ≤ -1099511627776
  · go_wp2
    go_returns
    exact ⟨⟨0, false, rfl, (fun z => by cases z), fun _ k k1 k2 => by have := k2.1; have := k2.2; omega⟩, Lib.hid HBB.out.bw⟩
  · obtain ⟨M, hM⟩ : ∃ M, min i 1099511627777 = M := ⟨_, rfl⟩
    have hM1 : -2199023255552 ≤ M := by omega
    have hM2 : M ≤ 2199023255552 := by omega
    have HMI : Hid ((M = i ∨ M = 1099511627777) ∧ min i 1099511627777 = M) := Lib.hid ⟨by omega, hM⟩
    go_wp2_with fail
    (with_reducible refine (HNR.out _ _ HBB.out.at_ hM1 hM2).mono ?_)
    rintro e w2 ⟨⟨j, ok, rfl, hn⟩, q⟩
    have HN := Lib.hid hn
    have HBW := Lib.hid (HBB.out.bw.trans (q.out.mono HBB.out.bw.size))
    have hj1 := hn.low
    have hj2 := hn.high
    clear hn q
    have HK : Hid (∀ k, k < i → InR k → M * (-1) < k * (-1)) := Lib.hid (fun k a b => by have := b.1; have := b.2; have := HMI.out; omega)
    cases ok
    · have HZ : Hid (DnIs ⟨P, N, co, cn, cc, oo, on, oc, cs, os⟩ i 0 false) := Lib.hid ⟨(fun z => by cases z), fun _ k k1 k2 => HN.out.no rfl k (HK.out k k1 k2)⟩
      clear hM
      go_wp2
      go_returns
      exact ⟨⟨0, false, rfl, HZ.out⟩, HBW⟩
    · have HY := Lib.hid (HN.out.yes rfl)
      by_cases h2 : j < -1099511627776
      · have HZ : Hid (DnIs ⟨P, N, co, cn, cc, oo, on, oc, cs, os⟩ i 0 false) := Lib.hid ⟨(fun z => by cases z), fun _ k k1 k2 => HY.out.2.2 k (HK.out k k1 k2) (by have := k2.1; have := k2.2; omega)⟩
        clear hM
        go_wp2
        go_returns
        exact ⟨⟨0, false, rfl, HZ.out⟩, HBW⟩
      · have HZ : Hid (DnIs ⟨P, N, co, cn, cc, oo, on, oc, cs, os⟩ i j true) := Lib.hid (by
          have h3 := HY.out.1
          have h4 := HMI.out
          have h5 : InR j := ⟨by omega, by omega⟩
          exact ⟨fun _ => ⟨h5, by omega, HY.out.2.1, fun k k1 k2 k3 => HY.out.2.2 k (HK.out k (by omega) k3) (by omega)⟩, fun z => by cases z⟩)
        clear hM
        go_wp2
        go_returns
        exact ⟨⟨j, true, rfl, HZ.out⟩, HBW⟩
theorem fdiv_le {i j N : Int} (h : 0 < N) (q : j ≤ i) : j.fdiv N ≤ i.fdiv N := by
  have a := fmod_eq i N
  have b := fmod_eq j N
  obtain ⟨c1, c2⟩ := fmod_nat i h
  obtain ⟨d1, d2⟩ := fmod_nat j h
  rcases Int.lt_or_le (i.fdiv N) (j.fdiv N) with z | z
  · have : N * (i.fdiv N + 1) ≤ N * j.fdiv N := Int.mul_le_mul_of_nonneg_left (by omega) (by omega)
    rw [Int.mul_add, Int.mul_one] at this
    omega
  · exact z
theorem fdiv_sub {i N : Int} (h : 0 < N) : (i - N).fdiv N = i.fdiv N - 1 := by
  have a := fmod_eq i N
  have b := fmod_eq (i - N) N
  have e : (i - N).fmod N = i.fmod N := fmod_turn (q := -1) h (by rw [Int.mul_neg, Int.mul_one]; omega)
  rw [e] at b
  have : N * (i - N).fdiv N = N * (i.fdiv N - 1) := by rw [Int.mul_sub, Int.mul_one]; omega
  exact Int.eq_of_mul_eq_mul_left (by omega) this
/-- The form without its exceptions. -/
def Fv.bare (F : Fv) : Fv := ⟨F.P, F.N, F.co, F.cn, F.cc, none, 0, 0, F.cs, []⟩
theorem bare_gr (F : Fv) (k : Int) : gr F.bare k = cg F.cs F.P F.N k := rfl
theorem bare_at {F : Fv} {w : World} (h : F.At w) : F.bare.At w := ⟨h.p1, h.p2, h.n1, h.n2, h.core, ⟨rfl, Nat.le_refl _, (show 0 ≤ 9223372036854775807 by decide), fun _ => ⟨rfl, rfl⟩, fun h => absurd h (Nat.lt_irrefl _)⟩, h.short.1, fun o ho => by cases ho⟩
theorem bare_ok {F : Fv} (h : F.Ok) : F.bare.Ok := ⟨h.meas, h.core, oddOk_nil, h.lenC, (fun o ho => by cases ho), h.cn, Nat.zero_le _⟩
theorem rt_full {F : Fv} (h : F.Rt) (hl : F.cs.length = F.cn) : F.cs = [] ∨ Full F.cs F.N := by
  rcases h.meas with ⟨_, _, z⟩ | ⟨a, b, _⟩
  · exact .inl (List.eq_nil_of_length_eq_zero (by omega))
  · exact .inr ⟨by omega, by omega⟩
theorem rt_P {F : Fv} (h : F.Rt) : 0 ≤ F.P ∧ F.P ≤ 1099511627776 := meas_P h.meas
/-- The granule of the core below one that is not far. -/
theorem low_far {F : Fv} (h : F.Rt) (ok : F.Ok) (hl : F.cs.length = F.cn) (hc : F.cn ≤ 10000) {ed : List Sp → Int} {t i j : Int} (c : CoreIs F.cs F.P F.N ed t i) (d : DnIs F.bare i j true) : -1125899906842624 ≤ F.P * j.fdiv F.N ∧ F.P * j.fdiv F.N ≤ 1125899906842624 := by
  obtain ⟨d1, d2, d3, d4⟩ := d.1 rfl
  obtain ⟨p1, p2⟩ := rt_P h
  have f := c.full
  obtain ⟨f1, f2⟩ := c.far
  have up := fdiv_le f.1 (Int.le_of_lt d2)
  have u2 : F.P * j.fdiv F.N ≤ F.P * i.fdiv F.N := Int.mul_le_mul_of_nonneg_left up p1
  refine ⟨?_, by omega⟩
  have near : ∀ m, m < i → InR m → cg F.cs F.P F.N m ≠ [] → m ≤ j := fun m m1 m2 m3 => by
    rcases Int.lt_or_le j m with z | z
    · exact absurd (d4 m z m1 m2) m3
    · exact z
  have turn : ∀ q, cg F.cs F.P F.N (i + F.N * q) ≠ [] := fun q => by rw [cg_nexts f]; exact moved_ne.2 c.here
  have hN : F.N ≤ 10000 := by have := f.2; omega
  have hN0 := f.1
  rcases Int.lt_or_le (1099511627776 : Int) (i - F.N) with z | z
  · -- far above
    have e := fmod_eq (1099511627776 - i) F.N
    obtain ⟨r1, r2⟩ := fmod_nat (1099511627776 - i) hN0
    have := near (i + F.N * (1099511627776 - i).fdiv F.N) (by omega) ⟨by omega, by omega⟩ (turn _)
    have j0 : 0 ≤ j := by omega
    have : (0 : Int).fdiv F.N ≤ j.fdiv F.N := fdiv_le hN0 j0
    rw [Int.zero_fdiv] at this
    have := Int.mul_nonneg p1 this
    omega
  · have lo : i - F.N ≤ j := by
      rcases Int.lt_or_le (i - F.N) (-1099511627776) with y | y
      · have := d1.1; omega
      · have := turn (-1)
        rw [show i + F.N * -1 = i - F.N by rw [Int.mul_neg, Int.mul_one]; omega] at this
        exact near _ (by omega) ⟨y, z⟩ this
    have := fdiv_le hN0 lo
    rw [fdiv_sub hN0] at this
    have u3 : F.P * (i.fdiv F.N - 1) ≤ F.P * j.fdiv F.N := Int.mul_le_mul_of_nonneg_left this p1
    rw [Int.mul_sub, Int.mul_one] at u3
    omega
theorem cg_hull {F : Fv} (h : F.Rt) (ok : F.Ok) (hl : F.cs.length = F.cn) {i : Int} (ne : cg F.cs F.P F.N i ≠ []) : hullA (cg F.cs F.P F.N i) ≤ hullB (cg F.cs F.P F.N i) := by
  have := gr_core (bare_ok ok) i
  obtain ⟨l, d, g, e⟩ := this
  rw [bare_gr] at e
  rw [e] at ne ⊢
  have n0 := moved_ne.1 ne
  rw [hullA_moved n0, hullB_moved n0]
  have := hull_le g n0
  omega
theorem from_one {F : Fv} (h : F.Rt) (ok : F.Ok) (hl : F.cs.length = F.cn) {t i : Int} (c : CoreIs F.cs F.P F.N hullB t i) (q : -1099511627776 ≤ hullA (cg F.cs F.P F.N i)) : FromCoreIs F t i true :=
  ⟨fun _ => ⟨c.here, c.ge, q, fun k k1 k2 => .inl (c.low k k1 k2), c.lo, c.hi⟩, fun z => by cases z⟩
theorem from_two {F : Fv} (h : F.Rt) (ok : F.Ok) (hl : F.cs.length = F.cn) {t i j : Int} (c : CoreIs F.cs F.P F.N hullB t i) (q : hullA (cg F.cs F.P F.N i) < -1099511627776) (d : CoreIs F.cs F.P F.N hullA (-1099511627776) j) : FromCoreIs F t j true := by
  refine ⟨fun _ => ⟨d.here, ?_, d.ge, fun k k1 k2 => .inr (d.low k k1 k2), d.lo, d.hi⟩, fun z => by cases z⟩
  have hd := d.ge
  have hA := cg_hull h ok hl d.here
  rcases Int.lt_trichotomy i j with z | rfl | z
  · have := cg_lt h ok hl z c.here d.here
    have := c.ge
    omega
  · exact c.ge
  · have := cg_lt h ok hl z d.here c.here
    omega
theorem till_a {F : Fv} (h : F.Rt) (ok : F.Ok) (hl : F.cs.length = F.cn) {t i j x : Int} (c : CoreIs F.cs F.P F.N hullA (t + 1) i) (d : DnIs F.bare i j false) : TillCoreIs F t x false := by
  refine ⟨(fun z => by cases z), fun _ k k1 k2 => .inl ?_⟩
  rcases Int.lt_trichotomy k i with z | rfl | z
  · exact absurd (d.2 rfl k z k1) k2
  · have := c.ge; omega
  · have := cg_lt h ok hl z c.here k2
    have := c.ge
    have := cg_hull h ok hl c.here
    omega
theorem till_b {F : Fv} (h : F.Rt) (ok : F.Ok) (hl : F.cs.length = F.cn) {t i j : Int} (c : CoreIs F.cs F.P F.N hullA (t + 1) i) (d : DnIs F.bare i j true) (q : hullB (cg F.cs F.P F.N j) ≤ 1099511627776) : TillCoreIs F t j true := by
  obtain ⟨d1, d2, d3, d4⟩ := d.1 rfl
  refine ⟨fun _ => ⟨d1, d3, ?_, q, fun k k1 k2 k3 => .inl ?_⟩, fun z => by cases z⟩
  · have := c.low j d2 d3; omega
  · rcases Int.lt_trichotomy k i with z | rfl | z
    · exact absurd (d4 k k1 z k2) k3
    · have := c.ge; omega
    · have := cg_lt h ok hl z c.here k3
      have := c.ge
      have := cg_hull h ok hl c.here
      omega
theorem till_c {F : Fv} (h : F.Rt) (ok : F.Ok) (hl : F.cs.length = F.cn) {t i j i2 j2 : Int} {b : Bool} (c : CoreIs F.cs F.P F.N hullA (t + 1) i) (d : DnIs F.bare i j true) (q : 1099511627776 < hullB (cg F.cs F.P F.N j)) (c2 : CoreIs F.cs F.P F.N hullB 1099511627777 i2) (dd : DnIs F.bare i2 j2 b) : TillCoreIs F t j2 b := by
  obtain ⟨d1, d2, d3, d4⟩ := d.1 rfl
  have ij : i2 ≤ j := by
    rcases Int.lt_or_le j i2 with z | z
    · have := c2.low j z d3; omega
    · exact z
  have big : ∀ k, i2 ≤ k → cg F.cs F.P F.N k ≠ [] → 1099511627776 < hullB (cg F.cs F.P F.N k) := fun k k1 k2 => by
    have := c2.ge
    rcases Int.lt_or_eq_of_le k1 with z | rfl
    · have := cg_lt h ok hl z c2.here k2
      have := cg_hull h ok hl k2
      omega
    · omega
  refine ⟨fun e => ?_, fun e k k1 k2 => ?_⟩
  · subst e
    obtain ⟨x1, x2, x3, x4⟩ := dd.1 rfl
    refine ⟨x1, x3, ?_, ?_, fun k k1 k2 k3 => .inr ?_⟩
    · have := c.low j2 (by omega) x3; omega
    · have := c2.low j2 x2 x3; omega
    · rcases Int.lt_or_le k i2 with z | z
      · exact absurd (x4 k k1 z k2) k3
      · exact big k z k3
  · subst e
    rcases Int.lt_or_le k i2 with z | z
    · exact absurd (dd.2 rfl k z k1) k2
    · exact .inr (big k z k2)
set_option maxRecDepth 8000 in
set_option maxHeartbeats 2000000 in
theorem fromCore_any (F : Fv) (t : Int) (w : World) (hF : F.At w) (rt : F.Rt) (ok : F.Ok) (hc : F.cn ≤ 10000) (t1 : -1099511627776 ≤ t) (t2 : t ≤ 1099511627776) : Calls Tryz.prog 32 #[F.v, .int .i64 t] w fun e w' => IbOut (FromCoreIs F t) e ∧ Hid (Below w.heap.size w w') := by
  have HRT := Lib.hid rt
  have HOK := Lib.hid ok
  clear rt ok
  obtain ⟨P, N, co, cn, cc, oo, on, oc, cs, os⟩ := F
  have LC : Hid (cs.length = cn) := Lib.hid hF.core.len
  have LO : Hid (os.length = on) := Lib.hid hF.odd.len
  have hmc : cn ≤ 9223372036854775807 := Nat.le_trans hF.core.le hF.core.top
  have hmo : on ≤ 9223372036854775807 := Nat.le_trans hF.odd.le hF.odd.top
  have hc10 : cn ≤ 10000 := hc
  have HRT : Hid (Fv.Rt ⟨P, N, co, cn, cc, oo, on, oc, cs, os⟩) := HRT
  have HOK : Hid (Fv.Ok ⟨P, N, co, cn, cc, oo, on, oc, cs, os⟩) := HOK
  have HLN : Hid ((Fv.cs ⟨P, N, co, cn, cc, oo, on, oc, cs, os⟩).length = Fv.cn ⟨P, N, co, cn, cc, oo, on, oc, cs, os⟩) := Lib.hid LC.out
  obtain ⟨b, hb⟩ : ∃ b, w.heap.size = b := ⟨_, rfl⟩
  obtain ⟨wb, hwb⟩ : ∃ wb, w.alloc (.cells #[.int .i64 P, .int .i64 N, .slice co cn cc, .slice oo on oc] 25) = wb := ⟨_, rfl⟩
  have HBB : Hid (Fbox ⟨P, N, co, cn, cc, oo, on, oc, cs, os⟩ w wb b) := Lib.hid (by rw [← hwb, ← hb]; exact fbox_new hF)
  have HF := Lib.hid hF
  clear hF
  have C1 : Hid (∀ W, Fv.At ⟨P, N, co, cn, cc, oo, on, oc, cs, os⟩ W → Calls Tryz.prog 60 #[.agg #[.int .i64 P, .int .i64 N, .slice co cn cc, .slice oo on oc], .func (.func 31) #[] #[], .int .i64 t] W fun e w' => CoreOut ⟨P, N, co, cn, cc, oo, on, oc, cs, os⟩ hullB t e ∧ Hid (Below W.heap.size W w')) := Lib.hid (fun W h => inCore_32 ⟨P, N, co, cn, cc, oo, on, oc, cs, os⟩ t W h HRT.out.meas HRT.out.core HRT.out.ris.order hc10 (by omega) (by omega))
  have C2 : Hid (∀ W, Fv.At ⟨P, N, co, cn, cc, oo, on, oc, cs, os⟩ W → Calls Tryz.prog 60 #[.agg #[.int .i64 P, .int .i64 N, .slice co cn cc, .slice oo on oc], .func (.func 36) #[] #[], .int .i64 (-1099511627776)] W fun e w' => CoreOut ⟨P, N, co, cn, cc, oo, on, oc, cs, os⟩ hullA (-1099511627776) e ∧ Hid (Below W.heap.size W w')) := Lib.hid (fun W h => inCore_36 ⟨P, N, co, cn, cc, oo, on, oc, cs, os⟩ (-1099511627776) W h HRT.out.meas HRT.out.core HRT.out.ris.order hc10 (by omega) (by omega))
  show Calls Tryz.prog 32 #[.agg #[.int .i64 P, .int .i64 N, .slice co cn cc, .slice oo on oc], .int .i64 t] w _
  go_enter Tryz.func32, Tryz.ntmps32
  go_upto_region 1 with fail
  clear hwb hb
  have e0 : wb.cell? ⟨b, 0, none⟩ = some (.int .i64 P) := HBB.out.c0
  have e1 : wb.cell? ⟨b, 1, none⟩ = some (.int .i64 N) := HBB.out.c1
  have e2 : wb.cell? ⟨b, 2, none⟩ = some (.slice co cn cc) := HBB.out.c2
  have e3 : wb.cell? ⟨b, 3, none⟩ = some (.slice oo on oc) := HBB.out.c3
  go_wp2_with fail
  (with_reducible refine (C1.out _ HBB.out.at_).mono ?_)
  rintro e w1 ⟨⟨i, ok, rfl, h1, h2⟩, q⟩
  have HBB := Lib.hid (HBB.out.keep q.out)
  clear e0 e1 e2 e3 q
  have e0 : w1.cell? ⟨b, 0, none⟩ = some (.int .i64 P) := HBB.out.c0
  have e1 : w1.cell? ⟨b, 1, none⟩ = some (.int .i64 N) := HBB.out.c1
  have e2 : w1.cell? ⟨b, 2, none⟩ = some (.slice co cn cc) := HBB.out.c2
  have e3 : w1.cell? ⟨b, 3, none⟩ = some (.slice oo on oc) := HBB.out.c3
  cases ok
  · have HZ : Hid (FromCoreIs ⟨P, N, co, cn, cc, oo, on, oc, cs, os⟩ t i false) := Lib.hid ⟨(fun z => by cases z), fun _ => (h2 rfl).2⟩
    clear h1 h2
    go_wp2
    go_returns
    exact ⟨⟨i, false, rfl, HZ.out⟩, Lib.hid HBB.out.bw⟩
  · have H1 := Lib.hid (h1 rfl)
    clear h1 h2
    have HTK : Hid (∀ W, Fv.At ⟨P, N, co, cn, cc, oo, on, oc, cs, os⟩ W → Calls Tryz.prog 61 #[.agg #[.int .i64 P, .int .i64 N, .slice co cn cc, .slice oo on oc], .int .i64 i, .func (.func 36) #[] #[]] W fun e w' => e = .returned (.int .i64 (hullA (cg cs P N i))) ∧ Hid (Below W.heap.size W w')) := Lib.hid (fun W h => tickOf_36 ⟨P, N, co, cn, cc, oo, on, oc, cs, os⟩ i W h (rt_full HRT.out HLN.out) HRT.out.core hc10 H1.out.lo H1.out.hi H1.out.here (Int.le_trans (by decide) H1.out.far.1) (Int.le_trans H1.out.far.2 (by decide)))
    have i1 : -1152921504606846976 ≤ i := H1.out.lo
    have i2 : i ≤ 1152921504606846976 := H1.out.hi
    obtain ⟨x, hx⟩ : ∃ x, hullA (cg cs P N i) = x := ⟨_, rfl⟩
    have HX := Lib.hid hx
    rw [hx] at HTK
    clear hx
    go_wp2_with fail
    (with_reducible refine (HTK.out _ HBB.out.at_).mono ?_)
    rintro e w2 ⟨rfl, q⟩
    have HBB := Lib.hid (HBB.out.keep q.out)
    clear e0 e1 e2 e3 q
    have e0 : w2.cell? ⟨b, 0, none⟩ = some (.int .i64 P) := HBB.out.c0
    have e1 : w2.cell? ⟨b, 1, none⟩ = some (.int .i64 N) := HBB.out.c1
    have e2 : w2.cell? ⟨b, 2, none⟩ = some (.slice co cn cc) := HBB.out.c2
    have e3 : w2.cell? ⟨b, 3, none⟩ = some (.slice oo on oc) := HBB.out.c3
    by_cases lt : x < -1099511627776
    · have t19 : decide (x < -1099511627776) = true := by simp; exact lt
      go_wp2_with fail
      (with_reducible refine (C2.out _ HBB.out.at_).mono ?_)
      rintro e w3 ⟨⟨j, ok, rfl, h1, h2⟩, q⟩
      have HBB := Lib.hid (HBB.out.keep q.out)
      clear e0 e1 e2 e3 q
      cases ok
      · have HN : Hid False := Lib.hid (H1.out.here ((h2 rfl).2 i))
        exact HN.out.elim
      · have HZ : Hid (FromCoreIs ⟨P, N, co, cn, cc, oo, on, oc, cs, os⟩ t j true) := Lib.hid (from_two HRT.out HOK.out HLN.out H1.out (by show hullA (cg cs P N i) < _; rw [HX.out]; exact lt) (h1 rfl))
        clear h1 h2
        go_wp2
        go_returns
        exact ⟨⟨j, true, rfl, HZ.out⟩, Lib.hid HBB.out.bw⟩
    · have t19 : decide (x < -1099511627776) = false := by simp; omega
      have HZ : Hid (FromCoreIs ⟨P, N, co, cn, cc, oo, on, oc, cs, os⟩ t i true) := Lib.hid (from_one HRT.out HOK.out HLN.out H1.out (by show _ ≤ hullA (cg cs P N i); rw [HX.out]; omega))
      go_wp2
      go_returns
      exact ⟨⟨i, true, rfl, HZ.out⟩, Lib.hid HBB.out.bw⟩
set_option maxRecDepth 8000 in
set_option maxHeartbeats 2000000 in
theorem tillCore_any (F : Fv) (t : Int) (w : World) (hF : F.At w) (rt : F.Rt) (ok : F.Ok) (hc : F.cn ≤ 10000) (t1 : -1099511627776 ≤ t) (t2 : t ≤ 1099511627776) : Calls Tryz.prog 37 #[F.v, .int .i64 t] w fun e w' => IbOut (TillCoreIs F t) e ∧ Hid (Below w.heap.size w w') := by
  have HRT := Lib.hid rt
  have HOK := Lib.hid ok
  clear rt ok
  obtain ⟨P, N, co, cn, cc, oo, on, oc, cs, os⟩ := F
  have LC : Hid (cs.length = cn) := Lib.hid hF.core.len
  have LO : Hid (os.length = on) := Lib.hid hF.odd.len
  have hmc : cn ≤ 9223372036854775807 := Nat.le_trans hF.core.le hF.core.top
  have hmo : on ≤ 9223372036854775807 := Nat.le_trans hF.odd.le hF.odd.top
  have hc10 : cn ≤ 10000 := hc
  have HRT : Hid (Fv.Rt ⟨P, N, co, cn, cc, oo, on, oc, cs, os⟩) := HRT
  have HOK : Hid (Fv.Ok ⟨P, N, co, cn, cc, oo, on, oc, cs, os⟩) := HOK
  have HLN : Hid ((Fv.cs ⟨P, N, co, cn, cc, oo, on, oc, cs, os⟩).length = Fv.cn ⟨P, N, co, cn, cc, oo, on, oc, cs, os⟩) := Lib.hid LC.out
  obtain ⟨b, hb⟩ : ∃ b, w.heap.size = b := ⟨_, rfl⟩
  obtain ⟨wb, hwb⟩ : ∃ wb, w.alloc (.cells #[.int .i64 P, .int .i64 N, .slice co cn cc, .slice oo on oc] 25) = wb := ⟨_, rfl⟩
  have HBB : Hid (Fbox ⟨P, N, co, cn, cc, oo, on, oc, cs, os⟩ w wb b) := Lib.hid (by rw [← hwb, ← hb]; exact fbox_new hF)
  have HF := Lib.hid hF
  clear hF
  have C1 : Hid (∀ W, Fv.At ⟨P, N, co, cn, cc, oo, on, oc, cs, os⟩ W → Calls Tryz.prog 60 #[.agg #[.int .i64 P, .int .i64 N, .slice co cn cc, .slice oo on oc], .func (.func 36) #[] #[], .int .i64 (t + 1)] W fun e w' => CoreOut ⟨P, N, co, cn, cc, oo, on, oc, cs, os⟩ hullA (t + 1) e ∧ Hid (Below W.heap.size W w')) := Lib.hid (fun W h => inCore_36 ⟨P, N, co, cn, cc, oo, on, oc, cs, os⟩ (t + 1) W h HRT.out.meas HRT.out.core HRT.out.ris.order hc10 (by omega) (by omega))
  have C2 : Hid (∀ W, Fv.At ⟨P, N, co, cn, cc, oo, on, oc, cs, os⟩ W → Calls Tryz.prog 60 #[.agg #[.int .i64 P, .int .i64 N, .slice co cn cc, .slice oo on oc], .func (.func 31) #[] #[], .int .i64 1099511627777] W fun e w' => CoreOut ⟨P, N, co, cn, cc, oo, on, oc, cs, os⟩ hullB 1099511627777 e ∧ Hid (Below W.heap.size W w')) := Lib.hid (fun W h => inCore_32 ⟨P, N, co, cn, cc, oo, on, oc, cs, os⟩ 1099511627777 W h HRT.out.meas HRT.out.core HRT.out.ris.order hc10 (by omega) (by omega))
  have CB : Hid (∀ W, Fv.At ⟨P, N, co, cn, cc, oo, on, oc, cs, os⟩ W → Calls Tryz.prog 63 #[.agg #[.int .i64 P, .int .i64 N, .slice co cn cc, .slice oo on oc]] W fun e w' => e = .returned (.agg #[.int .i64 P, .int .i64 N, .slice co cn cc, .slice none 0 0]) ∧ Hid (Below W.heap.size W w')) := Lib.hid (fun W h => bare_any ⟨P, N, co, cn, cc, oo, on, oc, cs, os⟩ W h)
  have CD : Hid (∀ i W, Fv.At ⟨P, N, co, cn, cc, oo, on, oc, cs, os⟩ W → -1152921504606846976 ≤ i → i ≤ 1152921504606846976 → Calls Tryz.prog 38 #[.agg #[.int .i64 P, .int .i64 N, .slice co cn cc, .slice none 0 0], .int .i64 i] W fun e w' => IbOut (DnIs (Fv.bare ⟨P, N, co, cn, cc, oo, on, oc, cs, os⟩) i) e ∧ Hid (Below W.heap.size W w')) := Lib.hid (fun i W h h1 h2 => before2_any (Fv.bare ⟨P, N, co, cn, cc, oo, on, oc, cs, os⟩) i W (bare_at h) (bare_ok HOK.out) (by omega) (by omega))
  show Calls Tryz.prog 37 #[.agg #[.int .i64 P, .int .i64 N, .slice co cn cc, .slice oo on oc], .int .i64 t] w _
  go_enter Tryz.func37, Tryz.ntmps37
  go_upto_region 1 with fail
  clear hwb hb
  have e0 : wb.cell? ⟨b, 0, none⟩ = some (.int .i64 P) := HBB.out.c0
  have e1 : wb.cell? ⟨b, 1, none⟩ = some (.int .i64 N) := HBB.out.c1
  have e2 : wb.cell? ⟨b, 2, none⟩ = some (.slice co cn cc) := HBB.out.c2
  have e3 : wb.cell? ⟨b, 3, none⟩ = some (.slice oo on oc) := HBB.out.c3
  go_wp2_with fail
  (with_reducible refine (C1.out _ HBB.out.at_).mono ?_)
  rintro e w1 ⟨⟨i, ok, rfl, h1, h2⟩, q⟩
  have HBB := Lib.hid (HBB.out.keep q.out)
  clear e0 e1 e2 e3 q
  have e0 : w1.cell? ⟨b, 0, none⟩ = some (.int .i64 P) := HBB.out.c0
  have e1 : w1.cell? ⟨b, 1, none⟩ = some (.int .i64 N) := HBB.out.c1
  have e2 : w1.cell? ⟨b, 2, none⟩ = some (.slice co cn cc) := HBB.out.c2
  have e3 : w1.cell? ⟨b, 3, none⟩ = some (.slice oo on oc) := HBB.out.c3
  cases ok
  · have HZ : Hid (TillCoreIs ⟨P, N, co, cn, cc, oo, on, oc, cs, os⟩ t i false) := Lib.hid ⟨(fun z => by cases z), fun _ k _ k2 => absurd ((h2 rfl).2 k) k2⟩
    clear h1 h2
    go_wp2
    go_returns
    exact ⟨⟨i, false, rfl, HZ.out⟩, Lib.hid HBB.out.bw⟩
  · have H1 := Lib.hid (h1 rfl)
    clear h1 h2
    have i1 : -1152921504606846976 ≤ i := H1.out.lo
    have i2 : i ≤ 1152921504606846976 := H1.out.hi
    go_wp2_with fail
    (with_reducible refine (CB.out _ HBB.out.at_).mono ?_)
    rintro e w2 ⟨rfl, q⟩
    have HBB := Lib.hid (HBB.out.keep q.out)
    clear e0 e1 e2 e3 q
    have e0 : w2.cell? ⟨b, 0, none⟩ = some (.int .i64 P) := HBB.out.c0
    have e1 : w2.cell? ⟨b, 1, none⟩ = some (.int .i64 N) := HBB.out.c1
    have e2 : w2.cell? ⟨b, 2, none⟩ = some (.slice co cn cc) := HBB.out.c2
    have e3 : w2.cell? ⟨b, 3, none⟩ = some (.slice oo on oc) := HBB.out.c3
    go_wp2_with fail
    (with_reducible refine (CD.out _ _ HBB.out.at_ i1 i2).mono ?_)
    rintro e w3 ⟨⟨j, ok, rfl, hd⟩, q⟩
    have HBB := Lib.hid (HBB.out.keep q.out)
    clear e0 e1 e2 e3 q
    have e0 : w3.cell? ⟨b, 0, none⟩ = some (.int .i64 P) := HBB.out.c0
    have e1 : w3.cell? ⟨b, 1, none⟩ = some (.int .i64 N) := HBB.out.c1
    have e2 : w3.cell? ⟨b, 2, none⟩ = some (.slice co cn cc) := HBB.out.c2
    have e3 : w3.cell? ⟨b, 3, none⟩ = some (.slice oo on oc) := HBB.out.c3
    have HD := Lib.hid hd
    clear hd
    cases ok
    · have HZ : Hid (TillCoreIs ⟨P, N, co, cn, cc, oo, on, oc, cs, os⟩ t j false) := Lib.hid (till_a HRT.out HOK.out HLN.out H1.out HD.out)
      go_wp2
      go_returns
      exact ⟨⟨j, false, rfl, HZ.out⟩, Lib.hid HBB.out.bw⟩
    · have HY := Lib.hid (HD.out.1 rfl)
      have HTK : Hid (∀ W, Fv.At ⟨P, N, co, cn, cc, oo, on, oc, cs, os⟩ W → Calls Tryz.prog 61 #[.agg #[.int .i64 P, .int .i64 N, .slice co cn cc, .slice oo on oc], .int .i64 j, .func (.func 31) #[] #[]] W fun e w' => e = .returned (.int .i64 (hullB (cg cs P N j))) ∧ Hid (Below W.heap.size W w')) := Lib.hid (fun W h => tickOf_32 ⟨P, N, co, cn, cc, oo, on, oc, cs, os⟩ j W h (rt_full HRT.out HLN.out) HRT.out.core hc10 (by have := HY.out.1.1; omega) (by have := HY.out.1.2; omega) HY.out.2.2.1 (low_far HRT.out HOK.out HLN.out hc10 H1.out HD.out).1 (low_far HRT.out HOK.out HLN.out hc10 H1.out HD.out).2)
      have j1 : -1099511627776 ≤ j := HY.out.1.1
      have j2 : j ≤ 1099511627776 := HY.out.1.2
      obtain ⟨x, hx⟩ : ∃ x, hullB (cg cs P N j) = x := ⟨_, rfl⟩
      have HX := Lib.hid hx
      rw [hx] at HTK
      clear hx
      go_wp2_with fail
      (with_reducible refine (HTK.out _ HBB.out.at_).mono ?_)
      rintro e w4 ⟨rfl, q⟩
      have HBB := Lib.hid (HBB.out.keep q.out)
      clear e0 e1 e2 e3 q
      have e0 : w4.cell? ⟨b, 0, none⟩ = some (.int .i64 P) := HBB.out.c0
      have e1 : w4.cell? ⟨b, 1, none⟩ = some (.int .i64 N) := HBB.out.c1
      have e2 : w4.cell? ⟨b, 2, none⟩ = some (.slice co cn cc) := HBB.out.c2
      have e3 : w4.cell? ⟨b, 3, none⟩ = some (.slice oo on oc) := HBB.out.c3
      by_cases lt : 1099511627776 < x
      · have t28 : decide (1099511627776 < x) = true := by simp; exact lt
        go_wp2_with fail
        (with_reducible refine (C2.out _ HBB.out.at_).mono ?_)
        rintro e w5 ⟨⟨i3, ok, rfl, h1, h2⟩, q⟩
        have HBB := Lib.hid (HBB.out.keep q.out)
        clear e0 e1 e2 e3 q
        have e0 : w5.cell? ⟨b, 0, none⟩ = some (.int .i64 P) := HBB.out.c0
        have e1 : w5.cell? ⟨b, 1, none⟩ = some (.int .i64 N) := HBB.out.c1
        have e2 : w5.cell? ⟨b, 2, none⟩ = some (.slice co cn cc) := HBB.out.c2
        have e3 : w5.cell? ⟨b, 3, none⟩ = some (.slice oo on oc) := HBB.out.c3
        cases ok
        · have HN : Hid False := Lib.hid (H1.out.here ((h2 rfl).2 i))
          exact HN.out.elim
        · have H2 := Lib.hid (h1 rfl)
          clear h1 h2
          have i31 : -1152921504606846976 ≤ i3 := H2.out.lo
          have i32 : i3 ≤ 1152921504606846976 := H2.out.hi
          go_wp2_with fail
          (with_reducible refine (CB.out _ HBB.out.at_).mono ?_)
          rintro e w6 ⟨rfl, q⟩
          have HBB := Lib.hid (HBB.out.keep q.out)
          clear e0 e1 e2 e3 q
          have e0 : w6.cell? ⟨b, 0, none⟩ = some (.int .i64 P) := HBB.out.c0
          have e1 : w6.cell? ⟨b, 1, none⟩ = some (.int .i64 N) := HBB.out.c1
          have e2 : w6.cell? ⟨b, 2, none⟩ = some (.slice co cn cc) := HBB.out.c2
          have e3 : w6.cell? ⟨b, 3, none⟩ = some (.slice oo on oc) := HBB.out.c3
          go_wp2_with fail
          (with_reducible refine (CD.out _ _ HBB.out.at_ i31 i32).mono ?_)
          rintro e w7 ⟨⟨j3, ok, rfl, hd⟩, q⟩
          have HBB := Lib.hid (HBB.out.keep q.out)
          clear e0 e1 e2 e3 q
          have HZ : Hid (TillCoreIs ⟨P, N, co, cn, cc, oo, on, oc, cs, os⟩ t j3 ok) := Lib.hid (till_c HRT.out HOK.out HLN.out H1.out HD.out (by show _ < hullB (cg cs P N j); rw [HX.out]; exact lt) H2.out hd)
          clear hd
          cases ok
          · go_wp2
            go_returns
            exact ⟨⟨j3, false, rfl, HZ.out⟩, Lib.hid HBB.out.bw⟩
          · go_wp2
            go_returns
            exact ⟨⟨j3, true, rfl, HZ.out⟩, Lib.hid HBB.out.bw⟩
      · have t28 : decide (1099511627776 < x) = false := by simp; omega
        have HZ : Hid (TillCoreIs ⟨P, N, co, cn, cc, oo, on, oc, cs, os⟩ t j true) := Lib.hid (till_b HRT.out HOK.out HLN.out H1.out HD.out (by show hullB (cg cs P N j) ≤ _; rw [HX.out]; omega))
        go_wp2
        go_returns
        exact ⟨⟨j, true, rfl, HZ.out⟩, Lib.hid HBB.out.bw⟩
end Go.Proofs.YtjhbgedobkpdhaaGreat
