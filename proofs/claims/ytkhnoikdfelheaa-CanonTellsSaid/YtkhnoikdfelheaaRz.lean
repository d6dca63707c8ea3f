/- R1, R2, R3, R4 in one. -/
import Derived.Test.YtkhnoikdfelheaaK2
import Derived.Test.YtkhnoikdfelheaaG20
import Derived.Test.YtkhnoikdfelheaaC6
import Derived.Deep.RegionHeld3
import Derived.Test.YtkhnoikdfelheaaM8
import Derived.Deep.AppendLies
import Derived.Laws.AppendOwnNone
import Derived.Test.YtkhnoikdfelheaaY2
import Derived.Test.YtkhnoikdfelheaaL3
namespace Go.Proofs.Ytkhnoikdfelheaa
set_option linter.unusedVariables false
set_option linter.unusedSimpArgs false
open Go.ChangeShapes Go.WideShapes Go.ChangeAt Go.RowKit
theorem free_one : ∀ (os : List Gr) (c : Nat → Int), (∀ i j, c i = c j → i = j) → ∃ k, k ≤ os.length ∧ ∀ o ∈ os, o.1 ≠ c k
  | [], c, _ => ⟨0, Nat.le_refl _, fun o h => by cases h⟩
  | o :: r, c, hc => by
    obtain ⟨k, hk, h⟩ := free_one r c hc
    by_cases e : o.1 = c k
    · obtain ⟨j, hj, h2⟩ := free_one r (fun j => c (if j < k then j else j + 1)) (fun a b q => by
        have := hc _ _ q
        split at this <;> split at this <;> omega)
      refine ⟨if j < k then j else j + 1, by simp only [List.length_cons]; split <;> omega, fun x hx => ?_⟩
      rcases List.mem_cons.1 hx with rfl | hx
      · intro q
        rw [e] at q
        have := hc _ _ q
        split at this <;> omega
      · exact h2 x hx
    · refine ⟨k, by simp only [List.length_cons]; omega, fun x hx => ?_⟩
      rcases List.mem_cons.1 hx with rfl | hx
      · exact e
      · exact h x hx
theorem gr_here {F : Fv} (h : F.os.Pairwise (fun a b => a.1 < b.1)) {o : Gr} (ho : o ∈ F.os) : gr F o.1 = o.2 := by
  obtain ⟨n, hn, rfl⟩ := List.getElem_of_mem ho
  unfold gr; rw [exc_at h hn rfl]
theorem usual_near {F : Fv} (rt : F.Rt) (ok : F.Ok) (hl : F.cs.length = F.cn) (ho : F.os.length ≤ 8) (hn : F.cn ≤ 12) {o : Gr} (hm : o ∈ F.os) (h1 : o.2 ≠ []) (f : Full F.cs F.N) (h2 : cset F.cs F.N o.1 ≠ []) : -21990232555520 ≤ F.P * o.1.fdiv F.N ∧ F.P * o.1.fdiv F.N ≤ 21990232555520 := by
  have hP := meas_P rt.meas
  have hN : F.N = (F.cn : Int) := by rw [f.2, hl]
  have hN0 := f.1
  obtain ⟨u, hu⟩ := List.exists_mem_of_ne_nil _ h1
  obtain ⟨s, hs⟩ := List.exists_mem_of_ne_nil _ h2
  have hgo := rt.odd.good o hm
  have fu := fit_good hgo.1 u hu
  have fs := fit_good (cset_good rt.core F.N o.1) s hs
  obtain ⟨q, hq⟩ : ∃ q, o.1.fdiv F.N = q := ⟨_, rfl⟩
  have hfd : o.1 = F.N * q + o.1.fmod F.N := by rw [← hq]; exact (Int.mul_fdiv_add_fmod _ _).symm
  have hfm := fmod_nat o.1 hN0
  have hc0 : cg F.cs F.P F.N o.1 = moved (cset F.cs F.N o.1) (F.P * q) := by rw [cg_in f, hq]
  have hgr : gr F o.1 = o.2 := gr_here rt.odd.inc hm
  have key : ∀ t : Int, (∀ x ∈ F.os, x.1 ≠ o.1 + F.N * t) → gr F (o.1 + F.N * t) = moved (cset F.cs F.N o.1) (F.P * q + F.P * t) := fun t ht => by
    rw [gr_free (exc_none.2 ht), cg_nexts f, hc0, moved_moved]
  have hin : ∀ t : Int, (s.1 + (F.P * q + F.P * t), s.2 + (F.P * q + F.P * t)) ∈ moved (cset F.cs F.N o.1) (F.P * q + F.P * t) := fun t => List.mem_map.2 ⟨s, hs, rfl⟩
  rw [hq]
  constructor
  · rcases Int.lt_or_le (F.P * q) (-21990232555520) with z | z
    · exfalso
      have hq0 : q < -19 := by
        rcases Int.lt_or_le q (-19) with y | y
        · exact y
        · have := Int.mul_le_mul_of_nonneg_left y hP.1; omega
      obtain ⟨k, hk, hfree⟩ := free_one F.os (fun k => o.1 + F.N * ((k : Int) + 1)) (fun i j e => by
        have e2 : F.N * ((i : Int) + 1) = F.N * ((j : Int) + 1) := Int.add_left_cancel e
        have := Int.eq_of_mul_eq_mul_left (by omega) e2
        omega)
      have hkk : (k : Int) + 1 ≤ 9 := by omega
      have b1 : F.N * ((k : Int) + 1) ≤ F.N * 9 := Int.mul_le_mul_of_nonneg_left hkk (by omega)
      have b2 : F.N * 1 ≤ F.N * ((k : Int) + 1) := Int.mul_le_mul_of_nonneg_left (by omega) (by omega)
      have b3 : F.N * q ≤ F.N * (-20) := Int.mul_le_mul_of_nonneg_left (by omega) (by omega)
      have b4 : F.P * ((k : Int) + 1) ≤ F.P * 9 := Int.mul_le_mul_of_nonneg_left hkk hP.1
      have a := gr_order rt ok hl _ (Nat.le_refl _) (i := o.1) (k := o.1 + F.N * ((k : Int) + 1)) (by omega) hgo.2.1 (by omega)
      rw [key _ hfree, hgr] at a
      have := a _ hu _ (hin ((k : Int) + 1))
      simp only at this
      omega
    · exact z
  · rcases Int.lt_or_le 21990232555520 (F.P * q) with z | z
    · exfalso
      have hq0 : 19 < q := by
        rcases Int.lt_or_le 19 q with y | y
        · exact y
        · have := Int.mul_le_mul_of_nonneg_left y hP.1; omega
      obtain ⟨k, hk, hfree⟩ := free_one F.os (fun k => o.1 + F.N * (-((k : Int) + 1))) (fun i j e => by
        have e2 : F.N * (-((i : Int) + 1)) = F.N * (-((j : Int) + 1)) := Int.add_left_cancel e
        have := Int.eq_of_mul_eq_mul_left (by omega) e2
        omega)
      have hkk : (k : Int) + 1 ≤ 9 := by omega
      have b1 : F.N * ((k : Int) + 1) ≤ F.N * 9 := Int.mul_le_mul_of_nonneg_left hkk (by omega)
      have b2 : F.N * 1 ≤ F.N * ((k : Int) + 1) := Int.mul_le_mul_of_nonneg_left (by omega) (by omega)
      have b3 : F.N * 20 ≤ F.N * q := Int.mul_le_mul_of_nonneg_left (by omega) (by omega)
      have b4 : F.P * ((k : Int) + 1) ≤ F.P * 9 := Int.mul_le_mul_of_nonneg_left hkk hP.1
      have b5 : F.N * (-((k : Int) + 1)) = -(F.N * ((k : Int) + 1)) := Int.mul_neg _ _
      have b6 : F.P * (-((k : Int) + 1)) = -(F.P * ((k : Int) + 1)) := Int.mul_neg _ _
      have a := gr_order rt ok hl _ (Nat.le_refl _) (i := o.1 + F.N * (-((k : Int) + 1))) (k := o.1) (by omega) (by omega) hgo.2.2
      rw [key _ hfree, hgr] at a
      have := a _ (hin (-((k : Int) + 1))) _ hu
      simp only at this
      omega
    · exact z
theorem down_pos (a b : Int) (w : World) (a1 : 0 ≤ a) (a2 : a ≤ 1099511627776) (b1 : 1 ≤ b) (b2 : b ≤ 1099511627776) :
    Calls Try.prog 54 #[.int .i64 a, .int .i64 b] w fun e w' => e = .returned (.tuple #[.int .i64 (a.fdiv b), .int .i64 (a.fmod b)]) ∧ w = w' := by
  have U := Lib.hid (fl_unique (a := a) (b := b) (q := a / b) (r := a % b) (by rw [Int.mul_comm]; exact Int.mul_ediv_add_emod a b) (.inl ⟨by omega, Int.emod_nonneg _ (by omega), Int.emod_lt_of_pos _ (by omega)⟩))
  have n1 : 0 ≤ a % b := Int.emod_nonneg _ (by omega)
  have n2 : a % b < b := Int.emod_lt_of_pos _ (by omega)
  have m1 : 0 ≤ a / b := Int.ediv_nonneg (by omega) (by omega)
  have m2 : a / b ≤ a := Int.ediv_le_self _ (by omega)
  have d2 : decide (a % b < 0) = false := by simp; omega
  go_enter Try.func54, Try.ntmps54
  go_wp2
  go_returns
  exact ⟨ret_int2 U.out.1 U.out.2, rfl⟩
theorem down_neg (a b : Int) (w : World) (a1 : -1099511627776 ≤ a) (a2 : a < 0) (b1 : 1 ≤ b) (b2 : b ≤ 1099511627776) :
    Calls Try.prog 54 #[.int .i64 a, .int .i64 b] w fun e w' => e = .returned (.tuple #[.int .i64 (a.fdiv b), .int .i64 (a.fmod b)]) ∧ w = w' := by
  have hm := Int.mul_tdiv_add_tmod a b
  rw [Int.mul_comm] at hm
  have q1 := Int.natAbs_tdiv_le_natAbs a b
  have r1 : (a.tmod b).natAbs < b.natAbs := by rw [Int.natAbs_tmod]; exact Nat.mod_lt _ (by omega)
  have s2 : a.tmod b ≤ 0 := by have := Int.tmod_nonneg b (show 0 ≤ -a by omega); rw [Int.neg_tmod] at this; omega
  have FU := Lib.hid (fun q r => @fl_unique a b q r)
  have HM := Lib.hid hm
  have q2 : -1099511627776 ≤ a.tdiv b ∧ a.tdiv b ≤ 1099511627776 := by omega
  have q3 := q2.1
  have q4 := q2.2
  have r2 : -1099511627776 ≤ a.tmod b := by omega
  have r3 : b ≠ 0 := by omega
  have r4 : ¬ (a = -9223372036854775808 ∧ b = -1) := by omega
  clear hm q1 q2
  by_cases c : a.tmod b < 0
  · have U := Lib.hid (FU.out (a.tdiv b - 1) (a.tmod b + b) (by have := HM.out; rw [Int.sub_mul]; omega) (by omega))
    have d2 : decide (a.tmod b < 0) = true := by simpa using c
    clear c FU r1
    go_enter Try.func54, Try.ntmps54
    go_wp2
    go_returns
    exact ⟨ret_int2 U.out.1 U.out.2, rfl⟩
  · have U := Lib.hid (FU.out (a.tdiv b) (a.tmod b) HM.out (by omega))
    have d2 : decide (a.tmod b < 0) = false := by simpa using c
    clear c FU r1
    go_enter Try.func54, Try.ntmps54
    go_wp2
    go_returns
    exact ⟨ret_int2 U.out.1 U.out.2, rfl⟩
theorem down_any (a b : Int) (w : World) (a1 : -1099511627776 ≤ a) (a2 : a ≤ 1099511627776) (b1 : 1 ≤ b) (b2 : b ≤ 1099511627776) :
    Calls Try.prog 54 #[.int .i64 a, .int .i64 b] w fun e w' => e = .returned (.tuple #[.int .i64 (a.fdiv b), .int .i64 (a.fmod b)]) ∧ w = w' := by
  rcases Int.lt_or_le a 0 with z | z
  · exact down_neg a b w a1 z b1 b2
  · exact down_pos a b w z a2 b1 b2
theorem wrap_sum {x u d e : Int} (hx : -1099511627776 ≤ x ∧ x ≤ 1099511627776) (hu : -1099511627776 ≤ u ∧ u ≤ 1099511627776) (hd : -9223372036854775808 ≤ d ∧ d ≤ 9223372036854775807) (he : -1152921504606846976 ≤ e ∧ e ≤ 1152921504606846976) : wrap64 (x + d) = wrap64 (u + e) ↔ x + d = u + e := by
  unfold wrap64; omega
set_option maxHeartbeats 2000000 in
theorem refHas_any (F : Fv) (i : Int) (w : World) (hF : F.At w) (f : Full F.cs F.N) (h1 : F.cn ≤ 1000000) (i1 : -1099511627776 ≤ i) (i2 : i ≤ 1099511627776) :
    Calls Try.prog 31 #[F.v, .int .i64 i] w fun e w' => ∃ (o : Option Addr) (m d : Nat) (x : Int), e = .returned (.tuple #[.slice o m d, .int .i64 x]) ∧ Hid (x = wrap64 (i.fdiv F.N * F.P)) ∧ Hid (SpAt w' o m d (cset F.cs F.N i)) ∧ Hid (Below w.heap.size w w') := by
  have g1 := f.1
  have g2 := f.2
  obtain ⟨P, N, co, cn, cc, oo, on, oc, cs, os⟩ := F
  have LC : Hid (cs.length = cn) := Lib.hid hF.core.len
  have LO : Hid (os.length = on) := Lib.hid hF.odd.len
  have hmc : cn ≤ 9223372036854775807 := Nat.le_trans hF.core.le hF.core.top
  have hmo : on ≤ 9223372036854775807 := Nat.le_trans hF.odd.le hF.odd.top
  have f1 : 0 < N := g1
  clear g1
  have f2 : N = (cs.length : Int) := g2
  clear g2
  have h1 : cn ≤ 1000000 := h1
  rw [LC.out] at f2
  subst f2
  clear f
  obtain ⟨b, hb⟩ : ∃ b, w.heap.size = b := ⟨_, rfl⟩
  obtain ⟨wb, hwb⟩ : ∃ wb, w.alloc (.cells #[.int .i64 P, .int .i64 (cn : Int), .slice co cn cc, .slice oo on oc] 25) = wb := ⟨_, rfl⟩
  have HBB : Hid (Fbox ⟨P, (cn : Int), co, cn, cc, oo, on, oc, cs, os⟩ w wb b) := Lib.hid (by rw [← hwb, ← hb]; exact fbox_new hF)
  clear hF
  show Calls Try.prog 31 #[.agg #[.int .i64 P, .int .i64 (cn : Int), .slice co cn cc, .slice oo on oc], .int .i64 i] w _
  go_enter Try.func31, Try.ntmps31
  go_upto_region 1 with fail
  clear hwb hb
  have e0 : wb.cell? ⟨b, 0, none⟩ = some (.int .i64 P) := HBB.out.c0
  have e1 : wb.cell? ⟨b, 1, none⟩ = some (.int .i64 (cn : Int)) := HBB.out.c1
  have e2 : wb.cell? ⟨b, 2, none⟩ = some (.slice co cn cc) := HBB.out.c2
  obtain ⟨fm1, fm2⟩ := fmod_nat i f1
  obtain ⟨n, hn⟩ : ∃ n : Nat, i.fmod (cn : Int) = n := ⟨_, (Int.toNat_of_nonneg fm1).symm⟩
  have nlt : n < cn := by omega
  obtain ⟨g, p, rfl, hc⟩ := (show CoAt wb co cn cc cs from HBB.out.at_.core).here (by omega)
  have hnl : n < cs.length := by rw [LC.out]; exact nlt
  obtain ⟨o, m, d, d2, d3⟩ := hc n hnl
  have HE : Hid (cset cs (cn : Int) i = cs[n]) := Lib.hid (by
    unfold cset
    rw [hn, List.getD_eq_getElem?_getD]
    simp [hnl])
  have HS : Hid (SpAt wb o m d (cset cs (cn : Int) i)) := Lib.hid (by rw [HE.out]; exact d3)
  have HD := Lib.hid (fun W => down_any i (cn : Int) W (by omega) (by omega) (by omega) (by omega))
  rw [hn] at HD
  obtain ⟨q, hq⟩ : ∃ q, i.fdiv (cn : Int) = q := ⟨_, rfl⟩
  rw [hq] at HD
  have HQ := Lib.hid hq
  have i0 : (0 : Int) ≤ (n : Int) := by omega
  have i3 : (n : Int) < (cn : Int) := by omega
  clear hc d3 fm1 fm2 hn hq HE
  clear hnl
  have HB := Lib.hid HBB.out.bw
  go_wp2_with fail
  (with_reducible refine (HD.out _).mono ?_)
  rintro e w3 ⟨rfl, rfl⟩
  go_wp2
  go_quiet (fail)
  go_wp2
  go_returns
  exact ⟨o, m, d, _, rfl, Lib.hid (by rw [HQ.out]), Lib.hid (HS.out.keep (below_drewN (Below.refl _ _) _)), Lib.hid (below_drewN HB.out _)⟩
set_option maxHeartbeats 2000000 in
theorem refBare_any (F : Fv) (w : World) (hF : F.At w) (r : Bool) (hr : r = true ↔ ∀ l ∈ F.cs, l = []) :
    Calls Try.prog 29 #[F.v] w fun e w' => e = .returned (.bool r) ∧ Below w.heap.size w w' := by
  have HR := Lib.hid hr
  clear hr
  obtain ⟨P, N, co, cn, cc, oo, on, oc, cs, os⟩ := F
  have LC : Hid (cs.length = cn) := Lib.hid hF.core.len
  have LO : Hid (os.length = on) := Lib.hid hF.odd.len
  have hmc : cn ≤ 9223372036854775807 := Nat.le_trans hF.core.le hF.core.top
  have hmo : on ≤ 9223372036854775807 := Nat.le_trans hF.odd.le hF.odd.top
  obtain ⟨b, hb⟩ : ∃ b, w.heap.size = b := ⟨_, rfl⟩
  obtain ⟨wb, hwb⟩ : ∃ wb, w.alloc (.cells #[.int .i64 P, .int .i64 N, .slice co cn cc, .slice oo on oc] 25) = wb := ⟨_, rfl⟩
  have HBB : Hid (Fbox ⟨P, N, co, cn, cc, oo, on, oc, cs, os⟩ w wb b) := Lib.hid (by rw [← hwb, ← hb]; exact fbox_new hF)
  clear hF
  show Calls Try.prog 29 #[.agg #[.int .i64 P, .int .i64 N, .slice co cn cc, .slice oo on oc]] w _
  go_enter Try.func29, Try.ntmps29
  go_upto_region 1 with fail
  clear hwb hb
  have HR : Hid (r = true ↔ ∀ l ∈ cs, l = []) := HR
  go_wp2
  go_loopw [3] (fun ii wr => ∃ k : Nat, k ≤ cn ∧ ii = .int .i64 k ∧ Hid (∀ l ∈ cs.take k, l = []) ∧ Hid (Fbox ⟨P, N, co, cn, cc, oo, on, oc, cs, os⟩ w wr b)) (fun ii _ => cn - (intOf ii).toNat)
  case atStart => exact ⟨0, Nat.zero_le _, rfl, Lib.hid (by simp), HBB⟩
  case round =>
    obtain ⟨k, hk, rfl, HN, HW⟩ := hrel
    have e2 : wr.cell? ⟨b, 2, none⟩ = some (.slice co cn cc) := HW.out.c2
    by_cases klt : k < cn
    · obtain ⟨g, p, rfl, hc⟩ := (show CoAt wr co cn cc cs from HW.out.at_.core).here (by omega)
      have hkl : k < cs.length := by rw [LC.out]; exact klt
      obtain ⟨o, m, d, d2, d3⟩ := hc k hkl
      have HM := Lib.hid d3.len
      have hmm : m ≤ 9223372036854775807 := Nat.le_trans d3.le d3.top
      have HF0 : Hid (0 < m → false = r) := Lib.hid (fun h => by
        cases r
        · rfl
        · have := HR.out.1 rfl _ (List.getElem_mem hkl)
          have e := HM.out
          rw [this] at e
          simp at e; omega)
      have HT0 : Hid (m = 0 → ∀ l ∈ cs.take (k + 1), l = []) := Lib.hid (fun h l hl => by
        rw [List.take_succ_eq_append_getElem hkl] at hl
        rcases List.mem_append.1 hl with q | q
        · exact HN.out l q
        · rw [List.mem_singleton] at q; rw [q]; exact List.eq_nil_of_length_eq_zero (by rw [HM.out]; exact h))
      have i0 : (0 : Int) ≤ (k : Int) := by omega
      have i1 : (k : Int) < (cn : Int) := by omega
      have HB := Lib.hid HW.out.bw
      clear hc d3 HN HM
      clear hkl
      by_cases m0 : 0 < m
      · have HE := Lib.hid (HF0.out m0)
        have m1 : (0 : Int) < (m : Int) := by omega
        clear HF0 HT0
        go_wp2
        go_returns
        exact ⟨ret_bool HE.out, HB.out⟩
      · obtain rfl : m = 0 := by omega
        have HE := Lib.hid (HT0.out rfl)
        clear HF0 HT0 m0
        go_wp2
        go_roundw
        case rel => exact ⟨k + 1, by omega, by go_num, HE, HW⟩
        case measure => simp [intOf]; omega
    · obtain rfl : cn = k := by omega
      have HE : Hid (true = r) := Lib.hid (HR.out.2 (fun l hl => HN.out l (by rw [List.take_of_length_le (by rw [LC.out]; exact Nat.le_refl _)]; exact hl))).symm
      have HB := Lib.hid HW.out.bw
      clear HN
      go_wp2
      go_returns
      exact ⟨ret_bool HE.out, HB.out⟩
theorem moved_at {l : List Sp} {d : Int} {i : Nat} (h : i < (moved l d).length) (h' : i < l.length) : (moved l d)[i] = (l[i].1 + d, l[i].2 + d) := by simp [moved]
set_option maxHeartbeats 4000000 in
theorem refSame_any (ao bo : Option Addr) (n c m d : Nat) (a b : List Sp) (x y : Int) (w : World) (ha : SpAt w ao n c a) (hb : SpAt w bo m d b) (fa : Fit a) (fb : Fit b) (x1 : -9223372036854775808 ≤ x) (x2 : x ≤ 9223372036854775807) (y1 : -1152921504606846976 ≤ y) (y2 : y ≤ 1152921504606846976) (r : Bool) (hr : r = true ↔ moved a x = moved b y) :
    Calls Try.prog 32 #[.slice ao n c, .int .i64 x, .slice bo m d, .int .i64 y] w fun e w' => e = .returned (.bool r) ∧ Below w.heap.size w w' := by
  have HA := Lib.hid ha
  have HB := Lib.hid hb
  have HR := Lib.hid hr
  have HFA := Lib.hid fa
  have HFB := Lib.hid fb
  have hmx : n ≤ 9223372036854775807 := Nat.le_trans ha.le ha.top
  have LA := Lib.hid ha.len
  have LB := Lib.hid hb.len
  have HXY := Lib.hid (show (-9223372036854775808 ≤ x ∧ x ≤ 9223372036854775807) ∧ (-1152921504606846976 ≤ y ∧ y ≤ 1152921504606846976) from ⟨⟨x1, x2⟩, y1, y2⟩)
  clear ha hb hr fa fb
  by_cases hnm : n = m
  · subst hnm
    have t1 : ((n : Int) != (n : Int)) = false := by simp
    go_enter Try.func32, Try.ntmps32
    go_wp2
    go_loopw [9] (fun ii wr => ∃ i : Nat, i ≤ n ∧ ii = .int .i64 i ∧ Hid ((moved a x).take i = (moved b y).take i) ∧ Hid (Below w.heap.size w wr)) (fun ii _ => n - (intOf ii).toNat)
    case atStart => exact ⟨0, Nat.zero_le _, rfl, Lib.hid rfl, Lib.hid (Below.refl _ _)⟩
    case round =>
      obtain ⟨i, hi, rfl, HI, HW⟩ := hrel
      by_cases ilt : i < n
      · obtain ⟨g, p, rfl, hc⟩ := HA.out.here (by omega)
        obtain ⟨h, q, rfl, hd⟩ := HB.out.here (by omega)
        have hia : i < a.length := by rw [LA.out]; exact ilt
        have hib : i < b.length := by rw [LB.out]; exact ilt
        have c1 := cell_keep (hc i hia).1 HW.out
        have c2 := cell_keep (hc i hia).2 HW.out
        have d1 := cell_keep (hd i hib).1 HW.out
        have d2 := cell_keep (hd i hib).2 HW.out
        have hma : i < (moved a x).length := by rw [moved_length]; exact hia
        have hmb : i < (moved b y).length := by rw [moved_length]; exact hib
        have HT := Lib.hid (take_eq_iff (by rw [moved_length, moved_length, LA.out, LB.out]) hma HI.out)
        have HG : Hid (moved a x = moved b y → (moved a x)[i] = (moved b y)[i]) := Lib.hid (fun z => by simp only [z])
        have ea : (moved a x)[i] = (a[i].1 + x, a[i].2 + x) := moved_at hma hia
        have eb : (moved b y)[i] = (b[i].1 + y, b[i].2 + y) := moved_at hmb hib
        rw [ea, eb] at HT HG
        have qa := HFA.out _ (List.getElem_mem hia)
        have qb := HFB.out _ (List.getElem_mem hib)
        have i0 : (0 : Int) ≤ (i : Int) := by omega
        have i1 : (i : Int) < (n : Int) := by omega
        clear hc hd ea eb
        obtain ⟨s, hs⟩ : ∃ z, a[i] = z := ⟨_, rfl⟩
        obtain ⟨u, hu⟩ : ∃ z, b[i] = z := ⟨_, rfl⟩
        rw [hs] at c1 c2 HT HG qa
        rw [hu] at d1 d2 HT HG qb
        obtain ⟨s1, s2⟩ := s
        obtain ⟨u1, u2⟩ := u
        simp only at c1 c2 d1 d2 qa qb
        have W1 : Hid (wrap64 (s1 + x) = wrap64 (u1 + y) ↔ s1 + x = u1 + y) := Lib.hid (wrap_sum qa.1 qb.1 HXY.out.1 HXY.out.2)
        have W2 : Hid (wrap64 (s2 + x) = wrap64 (u2 + y) ↔ s2 + x = u2 + y) := Lib.hid (wrap_sum qa.2 qb.2 HXY.out.1 HXY.out.2)
        clear hs hu hia hib hma hmb HI qa qb x1 x2 y1 y2
        by_cases e1 : wrap64 (s1 + x) = wrap64 (u1 + y)
        · by_cases e2 : wrap64 (s2 + x) = wrap64 (u2 + y)
          · have HI2 : Hid ((moved a x).take (i + 1) = (moved b y).take (i + 1)) := Lib.hid (HT.out.2 (by rw [W1.out.1 e1, W2.out.1 e2]))
            have t3 : (wrap64 (s1 + x) != wrap64 (u1 + y)) = false := by rw [e1]; simp
            have t4 : (wrap64 (s2 + x) != wrap64 (u2 + y)) = false := by rw [e2]; simp
            clear e1 e2 HT HG W1 W2
            go_wp2
            go_quiet (fail)
            go_wp2
            go_roundw
            case rel => exact ⟨i + 1, by omega, by go_num, HI2, Lib.hid (below_drewN HW.out _)⟩
            case measure => simp [intOf]; omega
          · have HF : Hid (false = r) := Lib.hid (by
              cases r
              · rfl
              · have := HG.out (HR.out.1 rfl); simp only [Prod.mk.injEq] at this; exact absurd (W2.out.2 this.2) e2)
            have t3 : (wrap64 (s1 + x) != wrap64 (u1 + y)) = false := by rw [e1]; simp
            have t4 : (wrap64 (s2 + x) != wrap64 (u2 + y)) = true := by simpa using e2
            clear e1 e2 HT HG W1 W2
            go_wp2
            go_quiet (fail)
            go_wp2
            go_returns
            exact ⟨ret_bool HF.out, below_drewN HW.out _⟩
        · have HF : Hid (false = r) := Lib.hid (by
            cases r
            · rfl
            · have := HG.out (HR.out.1 rfl); simp only [Prod.mk.injEq] at this; exact absurd (W1.out.2 this.1) e1)
          have t3 : (wrap64 (s1 + x) != wrap64 (u1 + y)) = true := by simpa using e1
          clear e1 HT HG W1 W2
          go_wp2
          go_quiet (fail)
          go_wp2
          go_returns
          exact ⟨ret_bool HF.out, below_drewN HW.out _⟩
      · obtain rfl : n = i := by omega
        have HT : Hid (true = r) := Lib.hid (HR.out.2 (by
          have e := HI.out
          rw [List.take_of_length_le (by rw [moved_length, LA.out]; exact Nat.le_refl _), List.take_of_length_le (by rw [moved_length, LB.out]; exact Nat.le_refl _)] at e
          exact e)).symm
        clear HI
        go_wp2
        go_returns
        exact ⟨ret_bool HT.out, HW.out⟩
  · have HF : Hid (false = r) := Lib.hid (by
      cases r
      · rfl
      · exfalso
        have e := congrArg List.length (HR.out.1 rfl)
        rw [moved_length, moved_length, LA.out, LB.out] at e
        exact hnm e)
    have t1 : ((n : Int) != (m : Int)) = true := by simp; omega
    clear hnm
    go_enter Try.func32, Try.ntmps32
    go_wp2
    go_returns
    exact ⟨ret_bool HF.out, Below.refl _ _⟩
set_option maxHeartbeats 4000000 in
theorem refTurns_any (F : Fv) (D : Nat) (w : World) (hF : F.At w) (ok : F.Ok) (f : Full F.cs F.N) (hs : F.cn ≤ 12) (d1 : 1 ≤ D) (d2 : D ≤ F.cn) (r : Bool) (hr : r = true ↔ TurnOk F.cs F.P F.N D) :
    Calls Try.prog 30 #[F.v, .int .i64 (D : Int)] w fun e w' => e = .returned (.bool r) ∧ Below w.heap.size w w' := by
  have HR := Lib.hid hr
  have HFU := Lib.hid f
  have HH := Lib.hid (fun W (h : F.At W) i (i1 : -1099511627776 ≤ i) (i2 : i ≤ 1099511627776) => refHas_any F i W h f ok.cn i1 i2)
  have HGD := Lib.hid (fun i => fit_good (cset_good ok.core F.N i))
  have hP := meas_P ok.meas
  have hl := hF.core.len
  have g2 := f.2
  clear hr ok f
  obtain ⟨P, N, co, cn, cc, oo, on, oc, cs, os⟩ := F
  have LC : Hid (cs.length = cn) := Lib.hid hF.core.len
  have LO : Hid (os.length = on) := Lib.hid hF.odd.len
  have hmc : cn ≤ 9223372036854775807 := Nat.le_trans hF.core.le hF.core.top
  have hmo : on ≤ 9223372036854775807 := Nat.le_trans hF.odd.le hF.odd.top
  have f2 : N = (cs.length : Int) := g2
  clear g2
  have hs : cn ≤ 12 := hs
  have d2 : D ≤ cn := d2
  have hP0 : 0 ≤ P := hP.1
  have hP1 : P ≤ 1099511627776 := hP.2
  have HR : Hid (r = true ↔ TurnOk cs P N D) := HR
  have HFU : Hid (Full cs N) := HFU
  rw [LC.out] at f2
  subst f2
  have HGD : Hid (∀ i, Fit (cset cs (cn : Int) i)) := HGD
  clear hP hl
  obtain ⟨b, hb⟩ : ∃ b, w.heap.size = b := ⟨_, rfl⟩
  obtain ⟨wb, hwb⟩ : ∃ wb, w.alloc (.cells #[.int .i64 P, .int .i64 (cn : Int), .slice co cn cc, .slice oo on oc] 25) = wb := ⟨_, rfl⟩
  have HBB : Hid (Fbox ⟨P, (cn : Int), co, cn, cc, oo, on, oc, cs, os⟩ w wb b) := Lib.hid (by rw [← hwb, ← hb]; exact fbox_new hF)
  clear hF
  show Calls Try.prog 30 #[.agg #[.int .i64 P, .int .i64 (cn : Int), .slice co cn cc, .slice oo on oc], .int .i64 (D : Int)] w _
  go_enter Try.func30, Try.ntmps30
  go_upto_region 1 with fail
  clear hwb hb
  have hD0 : (D : Int) ≠ 0 := by omega
  have hD1 : ¬ ((cn : Int) = -9223372036854775808 ∧ (D : Int) = -1) := by omega
  have hc0 : (cn : Int) ≠ 0 := by omega
  have q0 : 0 ≤ P * (D : Int) := Int.mul_nonneg hP0 (by omega)
  have q1 : P * (D : Int) ≤ 1099511627776 * 12 := Int.mul_le_mul hP1 (by omega) (by omega) (by omega)
  have hD2 : ¬ (P * (D : Int) = -9223372036854775808 ∧ (cn : Int) = -1) := by omega
  have hW : IntKind.i64.wrap (P * (D : Int)) = P * (D : Int) := IntWalk.i64_in _ (by omega)
  have r1 : Int.tmod (cn : Int) (D : Int) = (cn : Int) % (D : Int) := Int.tmod_eq_emod_of_nonneg (by omega)
  have r2 : Int.tmod (P * (D : Int)) (cn : Int) = P * (D : Int) % (cn : Int) := Int.tmod_eq_emod_of_nonneg q0
  have r3 : Int.tdiv (P * (D : Int)) (cn : Int) = P * (D : Int) / (cn : Int) := Int.tdiv_eq_ediv_of_nonneg q0
  obtain ⟨Y, hY⟩ : ∃ Y, P * (D : Int) / (cn : Int) = Y := ⟨_, rfl⟩
  have Y0 : 0 ≤ Y := by rw [← hY]; exact Int.ediv_nonneg q0 (by omega)
  have Y1 : Y ≤ 1099511627776 * 12 := by have := Int.ediv_le_self (cn : Int) q0; omega
  have HY := Lib.hid hY
  have HM1 : Hid ((cn : Int) % (D : Int) ≠ 0 → false = r) := Lib.hid (fun h => by
    cases r
    · rfl
    · exact absurd (Int.emod_eq_zero_of_dvd (HR.out.1 rfl).div) h)
  have HM2 : Hid (P * (D : Int) % (cn : Int) ≠ 0 → false = r) := Lib.hid (fun h => by
    cases r
    · rfl
    · exact absurd (Int.emod_eq_zero_of_dvd (HR.out.1 rfl).per) h)
  have HM3 : Hid ((cn : Int) % (D : Int) = 0 → P * (D : Int) % (cn : Int) = 0 → (∀ i : Nat, i < cs.length → cg cs P (cn : Int) ((i : Int) + D) = moved (cg cs P (cn : Int) (i : Int)) (P * D / (cn : Int))) → true = r) := Lib.hid (fun h1 h2 h3 => (HR.out.2 (turn_of HFU.out (by omega) (Int.dvd_of_emod_eq_zero h1) (Int.dvd_of_emod_eq_zero h2) h3)).symm)
  have e0 : wb.cell? ⟨b, 0, none⟩ = some (.int .i64 P) := HBB.out.c0
  have e1 : wb.cell? ⟨b, 1, none⟩ = some (.int .i64 (cn : Int)) := HBB.out.c1
  have e2 : wb.cell? ⟨b, 2, none⟩ = some (.slice co cn cc) := HBB.out.c2
  have e3 : wb.cell? ⟨b, 3, none⟩ = some (.slice oo on oc) := HBB.out.c3
  obtain ⟨M1, hM1⟩ : ∃ z, (cn : Int) % (D : Int) = z := ⟨_, rfl⟩
  obtain ⟨M2, hM2⟩ : ∃ z, P * (D : Int) % (cn : Int) = z := ⟨_, rfl⟩
  rw [hM1] at HM1 r1
  rw [hM2] at HM2 r2
  rw [hM1, hM2] at HM3
  rw [hY] at r3
  clear hM1 hM2 hY q0 q1
  by_cases m1 : M1 = 0
  · by_cases m2 : M2 = 0
    · subst m1 m2
      have HMT := Lib.hid (HM3.out rfl rfl)
      have HNO : Hid (∀ i : Nat, i < cs.length → ¬ cg cs P (cn : Int) ((i : Int) + D) = moved (cg cs P (cn : Int) (i : Int)) (P * D / (cn : Int)) → false = r) := Lib.hid (fun i hi h => by
        cases r
        · rfl
        · exact absurd ((HR.out.1 rfl).go i) h)
      rw [HY.out] at HMT HNO
      clear HM1 HM2 HM3 HR
      go_wp2
      go_loopw [5] (fun ii wr => ∃ k : Nat, k ≤ cn ∧ ii = .int .i64 k ∧ Hid (∀ i : Nat, i < k → cg cs P (cn : Int) ((i : Int) + D) = moved (cg cs P (cn : Int) (i : Int)) Y) ∧ Hid (Fbox ⟨P, (cn : Int), co, cn, cc, oo, on, oc, cs, os⟩ w wr b)) (fun ii _ => cn - (intOf ii).toNat)
      case atStart => exact ⟨0, Nat.zero_le _, rfl, Lib.hid (fun i h => absurd h (Nat.not_lt_zero _)), HBB⟩
      case round =>
        obtain ⟨k, hk, rfl, HN, HW⟩ := hrel
        clear e0 e1 e2 e3
        have e0 : wr.cell? ⟨b, 0, none⟩ = some (.int .i64 P) := HW.out.c0
        have e1 : wr.cell? ⟨b, 1, none⟩ = some (.int .i64 (cn : Int)) := HW.out.c1
        have e2 : wr.cell? ⟨b, 2, none⟩ = some (.slice co cn cc) := HW.out.c2
        have e3 : wr.cell? ⟨b, 3, none⟩ = some (.slice oo on oc) := HW.out.c3
        by_cases klt : k < cn
        · have k0 : (0 : Int) ≤ (k : Int) := by omega
          have k1 : (k : Int) < (cn : Int) := by omega
          have hkD : IntKind.i64.wrap ((k : Int) + (D : Int)) = (k : Int) + (D : Int) := IntWalk.i64_in _ (by omega)
          have G1 := Lib.hid (fun W h => HH.out W h (k : Int) (by omega) (by omega))
          have G2 := Lib.hid (fun W h => HH.out W h ((k : Int) + (D : Int)) (by omega) (by omega))
          have G1 : Hid (∀ W, Fv.At ⟨P, (cn : Int), co, cn, cc, oo, on, oc, cs, os⟩ W → Calls Try.prog 31 #[.agg #[.int .i64 P, .int .i64 (cn : Int), .slice co cn cc, .slice oo on oc], .int .i64 (k : Int)] W fun e w' => ∃ (o : Option Addr) (m d : Nat) (x : Int), e = .returned (.tuple #[.slice o m d, .int .i64 x]) ∧ Hid (x = wrap64 ((k : Int).fdiv (cn : Int) * P)) ∧ Hid (SpAt w' o m d (cset cs (cn : Int) (k : Int))) ∧ Hid (Below W.heap.size W w')) := G1
          have G2 : Hid (∀ W, Fv.At ⟨P, (cn : Int), co, cn, cc, oo, on, oc, cs, os⟩ W → Calls Try.prog 31 #[.agg #[.int .i64 P, .int .i64 (cn : Int), .slice co cn cc, .slice oo on oc], .int .i64 ((k : Int) + (D : Int))] W fun e w' => ∃ (o : Option Addr) (m d : Nat) (x : Int), e = .returned (.tuple #[.slice o m d, .int .i64 x]) ∧ Hid (x = wrap64 (((k : Int) + (D : Int)).fdiv (cn : Int) * P)) ∧ Hid (SpAt w' o m d (cset cs (cn : Int) ((k : Int) + (D : Int)))) ∧ Hid (Below W.heap.size W w')) := G2
          obtain ⟨K, hK⟩ : ∃ K, (k : Int) + (D : Int) = K := ⟨_, rfl⟩
          have HK := Lib.hid hK
          clear hK
          go_wp2_with fail
          (with_reducible refine (G1.out _ HW.out.at_).mono ?_)
          rintro e w3 ⟨o3, m3, j3, x3, rfl, hx3, hs3, hb3⟩
          have HW := Lib.hid (HW.out.keep hb3.out)
          clear hb3 e0 e1 e2 e3 G1
          have e0 : w3.cell? ⟨b, 0, none⟩ = some (.int .i64 P) := HW.out.c0
          have e1 : w3.cell? ⟨b, 1, none⟩ = some (.int .i64 (cn : Int)) := HW.out.c1
          have e2 : w3.cell? ⟨b, 2, none⟩ = some (.slice co cn cc) := HW.out.c2
          have e3 : w3.cell? ⟨b, 3, none⟩ = some (.slice oo on oc) := HW.out.c3
          go_wp2_with fail
          (with_reducible refine (G2.out _ HW.out.at_).mono ?_)
          rintro e w4 ⟨o4, m4, j4, x4, rfl, hx4, hs4, hb4⟩
          rw [HK.out] at hx4 hs4
          have HS3 := Lib.hid (hs3.out.keep hb4.out)
          have HW := Lib.hid (HW.out.keep hb4.out)
          clear hb4 hs3 e0 e1 e2 e3 G2 hkD
          have e0 : w4.cell? ⟨b, 0, none⟩ = some (.int .i64 P) := HW.out.c0
          have e1 : w4.cell? ⟨b, 1, none⟩ = some (.int .i64 (cn : Int)) := HW.out.c1
          have e2 : w4.cell? ⟨b, 2, none⟩ = some (.slice co cn cc) := HW.out.c2
          have e3 : w4.cell? ⟨b, 3, none⟩ = some (.slice oo on oc) := HW.out.c3
          have z3 : x3 = 0 := by
            have := hx3.out
            rw [Int.fdiv_eq_ediv_of_nonneg _ (by omega), Int.ediv_eq_zero_of_lt k0 k1, Int.zero_mul] at this
            rw [this]; unfold wrap64; omega
          subst z3
          have hq4 : 0 ≤ K.fdiv (cn : Int) ∧ K.fdiv (cn : Int) ≤ 1 := by
            have := HK.out
            rw [Int.fdiv_eq_ediv_of_nonneg _ (by omega)]
            exact ⟨Int.ediv_nonneg (by omega) (by omega), by
              have : K / (cn : Int) < 2 := Int.ediv_lt_of_lt_mul (by omega) (by omega)
              omega⟩
          have p4 : 0 ≤ K.fdiv (cn : Int) * P := Int.mul_nonneg hq4.1 hP0
          have p5 : K.fdiv (cn : Int) * P ≤ 1 * 1099511627776 := Int.mul_le_mul hq4.2 hP1 hP0 (by omega)
          have z4 : x4 = K.fdiv (cn : Int) * P := by rw [hx4.out]; unfold wrap64; omega
          have hin : k < cs.length := by rw [LC.out]; exact klt
          have C3 : cg cs P (cn : Int) (k : Int) = cset cs (cn : Int) (k : Int) := by
            rw [cg_in HFU.out, Int.fdiv_eq_ediv_of_nonneg _ (by omega), Int.ediv_eq_zero_of_lt k0 k1, Int.mul_zero, moved_zero]
          have C4 : cg cs P (cn : Int) K = moved (cset cs (cn : Int) K) x4 := by rw [cg_in HFU.out, z4, Int.mul_comm]
          obtain ⟨r2, hr2⟩ : ∃ r : Bool, r = true ↔ moved (cset cs (cn : Int) (k : Int)) Y = moved (cset cs (cn : Int) K) x4 := by classical exact ⟨decide _, decide_eq_true_iff⟩
          have HR2 : Hid (r2 = true → ∀ i : Nat, i < k + 1 → cg cs P (cn : Int) ((i : Int) + D) = moved (cg cs P (cn : Int) (i : Int)) Y) := Lib.hid (fun h i hi => by
            by_cases z : i = k
            · subst z
              rw [HK.out, C4, C3]
              exact (hr2.1 h).symm
            · exact HN.out i (by omega))
          have HR3 : Hid (r2 = false → false = r) := Lib.hid (fun h => HNO.out k hin (fun z => by
            rw [HK.out, C4, C3] at z
            rw [hr2.2 z.symm] at h; cases h))
          have HSM := Lib.hid (refSame_any o3 o4 m3 j3 m4 j4 _ _ Y x4 w4 HS3.out hs4.out (HGD.out _) (HGD.out _) (by omega) (by omega) (by omega) (by omega) r2 hr2)
          have hw9 : IntKind.i64.wrap (0 + Y) = Y := by rw [Int.zero_add]; exact IntWalk.i64_in _ (by omega)
          have hw8 : IntKind.i64.wrap Y = Y := IntWalk.i64_in _ (by omega)
          clear hr2 C3 C4 HS3 hs4 hx3 hx4 z4 p4 p5 hq4 HN
          clear hin
          go_wp2_with fail
          (with_reducible refine HSM.out.mono ?_)
          rintro e w5 ⟨rfl, q5⟩
          have HW := Lib.hid (HW.out.keep q5)
          clear q5 HSM e0 e1 e2 e3 hw8 hw9
          cases r2
          · have HE := Lib.hid (HR3.out rfl)
            have HB := Lib.hid HW.out.bw
            clear HR2 HR3
            go_wp2
            go_returns
            exact ⟨ret_bool HE.out, HB.out⟩
          · have HE := Lib.hid (HR2.out rfl)
            clear HR2 HR3
            go_wp2
            go_roundw
            case rel => exact ⟨k + 1, by omega, by go_num, HE, HW⟩
            case measure => simp [intOf]; omega
        · obtain rfl : cn = k := by omega
          have HE := Lib.hid (HMT.out (fun i hi => HN.out i (by rw [← LC.out]; exact hi)))
          have HB := Lib.hid HW.out.bw
          clear HN HMT HNO
          go_wp2
          go_returns
          exact ⟨ret_bool HE.out, HB.out⟩
    · have HE := Lib.hid (HM2.out m2)
      have HB := Lib.hid HBB.out.bw
      subst m1
      have t2 : (M2 != 0) = true := by simpa using m2
      clear HM1 HM2 HM3 m2
      go_wp2
      go_returns
      exact ⟨ret_bool HE.out, HB.out⟩
  · have HE := Lib.hid (HM1.out m1)
    have HB := Lib.hid HBB.out.bw
    have t2 : (M1 != 0) = true := by simpa using m1
    clear HM1 HM2 HM3 m1
    go_wp2
    go_returns
    exact ⟨ret_bool HE.out, HB.out⟩
theorem has_same {F : Fv} (rt : F.Rt) (ok : F.Ok) (hl : F.cs.length = F.cn) (ho : F.os.length ≤ 8) (hn : F.cn ≤ 12) {d : Nat} (t : IsTurn F.cs F.P F.N d) (hd : 0 < d) (f : Full F.cs F.N) {o : Gr} (hm : o ∈ F.os) : moved (cset (F.cs.take d) (d : Int) o.1) (wrap64 (o.1.fdiv (d : Int) * canP F.P F.N d)) = o.2 ↔ o.2 = cg F.cs F.P F.N o.1 := by
  have hT : TurnOk F.cs F.P F.N d := by
    rcases t with ⟨h, _⟩ | ⟨_, h, _⟩
    · omega
    · exact h
  have ft := take_full f hT
  have hdl := turn_le f hT
  have e := can_core (.inl f) t o.1
  rw [cg_in ft] at e
  rw [← e]
  by_cases h1 : cset (F.cs.take d) (d : Int) o.1 = []
  · rw [h1]; simp only [moved, List.map_nil]; exact eq_comm
  · by_cases h2 : o.2 = []
    · rw [h2]
      exact ⟨fun h => absurd h (moved_ne.2 h1), fun h => absurd h.symm (moved_ne.2 h1)⟩
    · have h3 : cset F.cs F.N o.1 ≠ [] := fun z => by
        rw [cg_in f, z] at e
        exact absurd e (moved_ne.2 h1)
      have b := usual_near rt ok hl ho hn hm h2 f h3
      have hP := meas_P rt.meas
      have hN := f.1
      have hNl := f.2
      have hm2 := canP_mul hT
      have m1 := fmod_nat o.1 hN
      have m2 := fmod_nat o.1 (show (0 : Int) < (d : Int) by omega)
      have q1 : F.N * o.1.fdiv F.N + o.1.fmod F.N = o.1 := Int.mul_fdiv_add_fmod _ _
      have q2 : (d : Int) * o.1.fdiv (d : Int) + o.1.fmod (d : Int) = o.1 := Int.mul_fdiv_add_fmod _ _
      obtain ⟨A, hA⟩ : ∃ A, canP F.P F.N d * o.1.fdiv (d : Int) = A := ⟨_, rfl⟩
      obtain ⟨B, hB⟩ : ∃ B, F.P * o.1.fdiv F.N = B := ⟨_, rfl⟩
      rw [hB] at b
      obtain ⟨x, hx⟩ : ∃ x, o.1.fdiv F.N = x := ⟨_, rfl⟩
      obtain ⟨y, hy⟩ : ∃ y, o.1.fdiv (d : Int) = y := ⟨_, rfl⟩
      obtain ⟨r, hr⟩ : ∃ r, o.1.fmod F.N = r := ⟨_, rfl⟩
      obtain ⟨s, hs⟩ : ∃ s, o.1.fmod (d : Int) = s := ⟨_, rfl⟩
      rw [hx] at q1 hB
      rw [hy] at q2 hA
      rw [hr] at q1 m1
      rw [hs] at q2 m2
      have k1 : F.N * A = F.N * B + F.P * (r - s) := by
        have a1 : F.N * A = F.P * ((d : Int) * y) := by rw [← hA, ← Int.mul_assoc, hm2, Int.mul_assoc]
        have a2 : F.N * B = F.P * (F.N * x) := by rw [← hB, ← Int.mul_assoc, ← Int.mul_assoc, Int.mul_comm F.N F.P]
        rw [a1, a2, ← Int.mul_add]
        congr 1
        omega
      have k2 : F.P * (r - s) ≤ F.P * F.N := Int.mul_le_mul_of_nonneg_left (by omega) hP.1
      have k3 : F.P * (-F.N) ≤ F.P * (r - s) := Int.mul_le_mul_of_nonneg_left (by omega) hP.1
      have k4 : F.P * (-F.N) = -(F.N * F.P) := by rw [Int.mul_neg, Int.mul_comm]
      have k5 : F.P * F.N = F.N * F.P := Int.mul_comm _ _
      have k6 : A ≤ B + F.P := by
        refine Int.le_of_mul_le_mul_left (a := F.N) ?_ hN
        rw [Int.mul_add]; omega
      have k7 : B - F.P ≤ A := by
        refine Int.le_of_mul_le_mul_left (a := F.N) ?_ hN
        rw [Int.mul_sub]; omega
      have w : wrap64 (o.1.fdiv (d : Int) * canP F.P F.N d) = A := by
        rw [hy, Int.mul_comm, hA]; unfold wrap64; omega
      rw [w, hy, hA]
      exact eq_comm
theorem Fo.put10 {F : Fv} {p n p' n' : Int} {w0 w : World} {b ro bo B : Nat} {vc vo : Value} (h : Fo F p n w0 w b ro bo B vc vo) (G' : Fv) (hG : G'.At w0) (e1 : G'.P = p') (e2 : G'.N = n') : Fo F p' n' w0 ((w.setCell ⟨bo, 1, none⟩ (.int .i64 n')).setCell ⟨bo, 0, none⟩ (.int .i64 p')) b ro bo B vc vo := by
  have hs := h.sz
  have hg : w.grownBy ((w.setCell ⟨bo, 1, none⟩ (.int .i64 n')).setCell ⟨bo, 0, none⟩ (.int .i64 p')) (some bo) := (grown_cell w ⟨bo, 1, none⟩ (.int .i64 n')).andThen (grown_cell _ ⟨bo, 0, none⟩ (.int .i64 p')) (fun j e => .inr e)
  obtain ⟨f, ⟨G, _, _, c⟩, box, hb, n1⟩ := h
  refine ⟨f, ⟨G', e1, e2, ⟨hG, c.bw.grown hg c.bw.size (fun k hk => by cases hk; exact c.lo), c.lo, c.lo2, c.hi, c.hi2, c.ne, Nat.le_trans c.sz hg.size, ?_, (hg.block ro (Nat.lt_of_lt_of_le c.hi2 c.sz) (fun e => by cases e; exact c.ne rfl)).trans c.res⟩⟩, (hg.block b (Nat.lt_of_lt_of_le hb hs) (fun e => by cases e; exact n1 rfl)).trans box, hb, n1⟩
  rw [set_block (set_block c.blk 1 _) 0 _, e1, e2]; rfl
theorem Fo.put2 {F : Fv} {p n : Int} {w0 w : World} {b ro bo B : Nat} {vc vo : Value} (h : Fo F p n w0 w b ro bo B vc vo) (u : Value) : Fo F p n w0 (w.setCell ⟨bo, 2, none⟩ u) b ro bo B u vo := by
  have hs := h.sz
  obtain ⟨f, ⟨G, e1, e2, c⟩, box, hb, n1⟩ := h
  exact ⟨f, ⟨G, e1, e2, c.put2 u⟩, ((grown_cell w ⟨bo, 2, none⟩ u).block b (Nat.lt_of_lt_of_le hb hs) (fun e => by cases e; exact n1 rfl)).trans box, hb, n1⟩
theorem cell_low {w w' : World} {a : Addr} {v : Value} {n : Nat} (h : w.cell? a = some v) (k : Below n w w') (hb : a.block < n) : w'.cell? a = some v := by
  rw [← h]; unfold World.cell?; rw [k.block a.block hb]
theorem spc_app : ∀ (l k : List Sp), spCells (l ++ k) = spCells l ++ spCells k
  | [], k => rfl
  | s :: r, k => by simp [spCells, spc_app r k]
/-- A set is copied: at a step of a region that draws its order. -/
theorem step_sp {ops : Array Oper} {o : Oper} {a : Act} {K : Act → World → Prop} {Q : Exit → Act → World → Prop} {E : Prop} {w : World} (hgd : o.guard = none) (s x : Operand)
    (ho : o.op = .call { callee := .builtin .append, args := #[s, x], argTypes := #[31, 31] }) (B : Nat) (v : Value) (hs : a.eval s = v) (hown : w.ownsRow B 46 2 v 0 []) (ao : Option Addr) (m c : Nat) (k : List Sp) (hx : a.eval x = .slice ao m c) (hk : SpAt w ao m c k) (hm : m ≤ 1000000) (hB : B ≤ w.heap.size)
    (h : ∀ a3 c3 w', w'.ownsRow B 46 2 (.slice a3 m c3) m (spCells k) → Below B w w' → K (a.put o.dst (.slice a3 m c3)) w') : if Region.wanted o (yielded ops a.tmps) = true then Oper.wp Try.prog o a w K Q else E := by
  have hw : Region.wanted o (yielded ops a.tmps) = true := by simp [Region.wanted, hgd]
  rw [if_pos hw]
  obtain ⟨i0, hi, hz0, hz1, hz2⟩ := info_parts info46
  have key : ∀ v' w', w'.ownsRow B 46 2 v' m (spCells k) → w.grownBy w' v.ownBlock → K (a.put o.dst v') w' := fun v' w' h1 h2 => by
    obtain ⟨a3, c3, rfl, _⟩ := own_sp hk.len h1
    exact h a3 c3 w' h1 ((Below.refl B w).grown h2 hB (fun q e => (hown.lt q e).1))
  cases ao with
  | none =>
    obtain ⟨rfl, rfl⟩ := hk.bare rfl
    obtain rfl : k = [] := List.eq_nil_of_length_eq_zero hk.len
    have hrun := run_append_owned_none (P := Try.prog) (w := w) B 31 o.type 46 i0 2 Try.underlying31 hi v 0 [] hown
    unfold Oper.wp
    simp [execOp, ho, resolve, invoke, builtin, hs, hx, hrun, Result.andThen]
    exact key v w hown ⟨rfl, rfl, rfl, Nat.le_refl _, fun _ _ _ => rfl⟩
  | some ad =>
    refine wp_append_own w s x 31 ho B 46 i0 (.agg #[.int .i64 0, .int .i64 0]) 2 16 Try.underlying31 hi hz0 hz1 hz2 rfl (by decide) v 0 [] hs hown ad m c (spCells k) hx (by rw [spCells_length, hk.len]) (sp_all' hk) (spCells_one k) (by unfold maxLen; omega) (by omega) hB ?_
    intro v' w' h1 h2 _
    rw [Nat.zero_add] at h1
    exact key v' w' h1 h2
theorem own00 {B : Nat} {w : World} (h : B ≤ w.heap.size) : (w.alloc (.cells #[] 46)).ownsRow B 46 2 (.slice (some ⟨w.heap.size, 0, none⟩) 0 0) 0 [] :=
  ⟨rfl, .inr ⟨w.heap.size, 0, #[], rfl, h, by show (w.heap.push _)[w.heap.size]? = _; simp, Nat.le_refl _, by unfold maxLen; omega, rfl, rfl⟩⟩
set_option maxRecDepth 8000 in
set_option maxHeartbeats 8000000 in
theorem refForm_any (F : Fv) (w : World) (hF : F.At w) (rt : F.Rt) (hs : F.Small) :
    Calls Try.prog 12 #[F.v] w fun e w' => ∃ (d : Nat) (vc vo : Value), e = .returned (.agg #[.int .i64 (canP F.P F.N d), .int .i64 (d : Int), vc, vo]) ∧ Hid (IsTurn F.cs F.P F.N d) ∧ Hid (CoOwn w' w.heap.size vc d (F.cs.take d) ∧ OdOwn w' w.heap.size vo (canOs F).length (canOs F)) ∧ Hid (Below w.heap.size w w') := by
  have ok := rt.ok hs
  obtain ⟨k0, hk, hkz0, hkz1, hkz2⟩ := info_parts info43
  obtain ⟨j0, hj, hjz0, hjz1, hjz2⟩ := info_parts info31
  have HK := Lib.hid hk
  have HK0 := Lib.hid hkz0
  have HK1 := Lib.hid hkz1
  have HK2 := Lib.hid hkz2
  have HJ := Lib.hid hj
  have HJ0 := Lib.hid hjz0
  have HJ1 := Lib.hid hjz1
  have HJ2 := Lib.hid hjz2
  clear hk hkz0 hkz1 hkz2 hj hjz0 hjz1 hjz2
  have HFL := Lib.hid (meas_full rt.meas hF.core.len)
  obtain ⟨d0, hd0⟩ := isTurn_ex (cs := F.cs) (P := F.P) (N := F.N) HFL.out
  have HT := Lib.hid hd0
  obtain ⟨nb, hnb⟩ : ∃ r : Bool, r = true ↔ ∃ l ∈ F.cs, l ≠ [] := by classical exact ⟨decide _, decide_eq_true_iff⟩
  have hrb : (!nb) = true ↔ ∀ l ∈ F.cs, l = [] := by
    rw [Bool.not_eq_true', ← Bool.not_eq_true, hnb]
    exact ⟨fun h l hl => Classical.byContradiction fun q => h ⟨l, hl, q⟩, fun h ⟨l, hl, q⟩ => q (h l hl)⟩
  have HBA := Lib.hid (fun W (h : F.At W) => refBare_any F W h (!nb) hrb)
  have HRB := Lib.hid hnb
  have HTU := Lib.hid (fun W (h : F.At W) f D (d1 : 1 ≤ D) (d2 : D ≤ F.cn) r hr => refTurns_any F D W h ok f hs.1 d1 d2 r hr)
  have ho8 : F.os.length ≤ 8 := by rw [hF.odd.len]; exact hs.2.1
  have HSAM := Lib.hid (fun (hd : 0 < d0) (f : Full F.cs F.N) (o : Gr) (hm : o ∈ F.os) => has_same rt ok hF.core.len ho8 hs.1 hd0 hd f hm)
  have hmeas := ok.meas
  have hcn := hs.1
  have hon := hs.2.1
  have S2 := Lib.hid ok.lenO
  have S1 := Lib.hid ok.lenC
  have HOD := Lib.hid ok.odd
  have HGC := Lib.hid ok.core
  clear hd0 hrb hnb ok ho8 hs
  obtain ⟨P, N, co, cn, cc, oo, on, oc, cs, os⟩ := F
  have LC : Hid (cs.length = cn) := Lib.hid hF.core.len
  have LO : Hid (os.length = on) := Lib.hid hF.odd.len
  have h1 : cn ≤ 12 := hcn
  have h2 : on ≤ 8 := hon
  have hmeas : (N = 0 ∧ P = 0 ∧ cn = 0) ∨ (N ≠ 0 ∧ N = cn ∧ 1 ≤ P ∧ P ≤ 1099511627776) := hmeas
  have S2 : Hid (∀ o ∈ os, o.2.length ≤ 1000000) := S2
  have S1 : Hid (∀ l ∈ cs, l.length ≤ 1000000) := S1
  have HOD : Hid (OddOk os) := HOD
  have HGC : Hid (∀ l ∈ cs, Good l) := HGC
  have HT : Hid (IsTurn cs P N d0) := HT
  have HRB : Hid (nb = true ↔ ∃ l ∈ cs, l ≠ []) := HRB
  have HFL : Hid (Full cs N ∨ cs = []) := HFL
  have HSAM : Hid (0 < d0 → Full cs N → ∀ o ∈ os, (moved (cset (cs.take d0) (d0 : Int) o.1) (wrap64 (o.1.fdiv (d0 : Int) * canP P N d0)) = o.2 ↔ o.2 = cg cs P N o.1)) := HSAM
  have HF := Lib.hid hF
  clear hF rt hcn hon
  have HBA : Hid (∀ W, Fv.At ⟨P, N, co, cn, cc, oo, on, oc, cs, os⟩ W → Calls Try.prog 29 #[.agg #[.int .i64 P, .int .i64 N, .slice co cn cc, .slice oo on oc]] W fun e w' => e = .returned (.bool (!nb)) ∧ Below W.heap.size W w') := HBA
  have HTU : Hid (∀ W, Fv.At ⟨P, N, co, cn, cc, oo, on, oc, cs, os⟩ W → Full cs N → ∀ D : Nat, 1 ≤ D → D ≤ cn → ∀ r : Bool, (r = true ↔ TurnOk cs P N D) → Calls Try.prog 30 #[.agg #[.int .i64 P, .int .i64 N, .slice co cn cc, .slice oo on oc], .int .i64 (D : Int)] W fun e w' => e = .returned (.bool r) ∧ Below W.heap.size W w') := HTU
  obtain ⟨b, hb⟩ : ∃ b, w.heap.size = b := ⟨_, rfl⟩
  obtain ⟨ro, hro⟩ : ∃ ro, b + 1 = ro := ⟨_, rfl⟩
  obtain ⟨bo, hbo⟩ : ∃ bo, ro + 1 = bo := ⟨_, rfl⟩
  obtain ⟨wc, hwc⟩ : ∃ wc, ((w.alloc (.cells #[.int .i64 P, .int .i64 N, .slice co cn cc, .slice oo on oc] 25)).alloc (.cells #[.int .i64 0, .int .i64 0, .slice none 0 0, .slice none 0 0] 25)).alloc (.cells #[.int .i64 0, .int .i64 0, .slice none 0 0, .slice none 0 0] 25) = wc := ⟨_, rfl⟩
  have HA : Hid (Fo ⟨P, N, co, cn, cc, oo, on, oc, cs, os⟩ 0 0 w wc b ro bo (bo + 1) (.slice none 0 0) (.slice none 0 0)) := Lib.hid (by
    have K1 : Below w.heap.size w wc := by rw [← hwc]; exact (((Below.refl _ w).alloc (Nat.le_refl _) _).alloc (by simp) _).alloc (by simp; omega) _
    refine ⟨HF.out, ⟨Fv.zero, rfl, rfl, ⟨Fv.zero_at _, K1, by omega, by omega, by omega, by omega, by omega, ?_, ?_, ?_⟩⟩, ?_, by omega, by omega⟩
    · rw [← hwc]; simp; omega
    · rw [← hwc, show bo = ((w.alloc (.cells #[.int .i64 P, .int .i64 N, .slice co cn cc, .slice oo on oc] 25)).alloc (.cells #[.int .i64 0, .int .i64 0, .slice none 0 0, .slice none 0 0] 25)).heap.size by simp; omega, new_al]; rfl
    · rw [← hwc, old_al _ _ (by simp; omega), show ro = (w.alloc (.cells #[.int .i64 P, .int .i64 N, .slice co cn cc, .slice oo on oc] 25)).heap.size by simp; omega, new_al]
    · rw [← hwc, old_al _ _ (by simp; omega), old_al _ _ (by simp; omega), show b = w.heap.size by omega, new_al])
  have HLO : Hid (w.heap.size ≤ bo + 1) := Lib.hid (by omega)
  have e0 : wc.cell? ⟨b, 0, none⟩ = some (.int .i64 P) := HA.out.boxc 0
  have e1 : wc.cell? ⟨b, 1, none⟩ = some (.int .i64 N) := HA.out.boxc 1
  have e2 : wc.cell? ⟨b, 2, none⟩ = some (.slice co cn cc) := HA.out.boxc 2
  have e3 : wc.cell? ⟨b, 3, none⟩ = some (.slice oo on oc) := HA.out.boxc 3
  show Calls Try.prog 12 #[.agg #[.int .i64 P, .int .i64 N, .slice co cn cc, .slice oo on oc]] w _
  go_enter Try.func12, Try.ntmps12
  go_wp2_with fail
  clear hwc hb hro hbo
  (with_reducible refine (HBA.out _ (HF.out.keep HA.out.bw)).mono ?_)
  rintro e w3 ⟨rfl, q3⟩
  have HA := Lib.hid (HA.out.keep q3)
  clear q3 HBA e0 e1 e2 e3
  go_upto_if 12 with fail
  go_cut [4, 5] from 13 to 45 (fun s4 s5 wx => Hid (∃ vc, CoOwn wx (bo + 1) vc d0 (cs.take d0) ∧ Fo ⟨P, N, co, cn, cc, oo, on, oc, cs, os⟩ (canP P N d0) (d0 : Int) w wx b ro bo (bo + 1) vc (.slice none 0 0)))
  case first =>
    cases nb
    · obtain rfl : d0 = 0 := by
        rcases HT.out with ⟨h, _⟩ | ⟨h, _⟩
        · exact h
        · have := HRB.out.2 h; cases this
      have HZ : Hid (∃ vc, CoOwn w3 (bo + 1) vc 0 (cs.take 0) ∧ Fo ⟨P, N, co, cn, cc, oo, on, oc, cs, os⟩ (canP P N 0) ((0 : Nat) : Int) w w3 b ro bo (bo + 1) vc (.slice none 0 0)) := Lib.hid ⟨_, ⟨rfl, [], World.ownsRow_nil _ _ _ _, fun i hi => absurd hi (Nat.not_lt_zero _)⟩, HA.out⟩
      go_wp2_with fail
      go_meet
      case rel => exact HZ
    · have hne : ∃ l ∈ cs, l ≠ [] := HRB.out.1 rfl
      have hfu : Full cs N := by
        rcases HFL.out with h | h
        · exact h
        · obtain ⟨l, hl, _⟩ := hne; rw [h] at hl; cases hl
      have hto : TurnOk cs P N d0 ∧ ∀ e, TurnOk cs P N e → d0 ≤ e := by
        rcases HT.out with ⟨_, h⟩ | ⟨_, h⟩
        · obtain ⟨l, hl, hn⟩ := hne; exact absurd (h l hl) hn
        · exact h
      have HFU := Lib.hid hfu
      have HTO := Lib.hid hto
      have d1 : 1 ≤ d0 := hto.1.pos
      have d2 : d0 ≤ cn := by have := turn_le hfu hto.1; rw [LC.out] at this; exact this
      have hm2 : N = (cn : Int) ∧ 1 ≤ P ∧ P ≤ 1099511627776 := by
        rcases hmeas with ⟨_, _, h⟩ | ⟨_, h1, h2, h3⟩
        · omega
        · exact ⟨h1, h2, h3⟩
      obtain ⟨m1, m2, m3⟩ := hm2
      subst m1
      clear hne hfu hto hmeas HRB HFL HSAM
      go_wp2_with fail
      go_loopw [4] (fun dd wr => ∃ D : Nat, 1 ≤ D ∧ D ≤ d0 ∧ dd = .int .i64 (D : Int) ∧ Hid (Fo ⟨P, (cn : Int), co, cn, cc, oo, on, oc, cs, os⟩ 0 0 w wr b ro bo (bo + 1) (.slice none 0 0) (.slice none 0 0))) (fun dd _ => d0 - (intOf dd).toNat)
      case atStart => exact ⟨1, Nat.le_refl _, d1, rfl, HA⟩
      case round =>
        obtain ⟨D, D1, D2, rfl, HA⟩ := hrel
        obtain ⟨r, hr⟩ : ∃ r : Bool, r = true ↔ TurnOk cs P (cn : Int) D := by classical exact ⟨decide _, decide_eq_true_iff⟩
        have HTX := Lib.hid (HTU.out wr (HF.out.keep HA.out.bw) HFU.out D D1 (by omega) r hr)
        have HR := Lib.hid hr
        clear hr
        have e0 : wr.cell? ⟨b, 0, none⟩ = some (.int .i64 P) := HA.out.boxc 0
        have e1 : wr.cell? ⟨b, 1, none⟩ = some (.int .i64 (cn : Int)) := HA.out.boxc 1
        have e2 : wr.cell? ⟨b, 2, none⟩ = some (.slice co cn cc) := HA.out.boxc 2
        have e3 : wr.cell? ⟨b, 3, none⟩ = some (.slice oo on oc) := HA.out.boxc 3
        go_wp2_with fail
        (with_reducible refine HTX.out.mono ?_)
        rintro e w4 ⟨rfl, q4⟩
        have HA := Lib.hid (HA.out.keep q4)
        clear q4 HTX e0 e1 e2 e3
        cases r
        · have hlt : D < d0 := by
            rcases Nat.lt_or_ge D d0 with z | z
            · exact z
            · have : D = d0 := by omega
              rw [this] at HR
              have := HR.out.2 HTO.out.1; cases this
          clear HR
          go_wp2
          go_roundw
          case rel => exact ⟨D + 1, by omega, by omega, by go_num, HA⟩
          case measure => simp [intOf]; omega
        · obtain rfl : D = d0 := by have := HTO.out.2 D (HR.out.1 rfl); omega
          clear HR
          have q0 : 0 ≤ P * (D : Int) := Int.mul_nonneg (by omega) (by omega)
          have q1 : P * (D : Int) ≤ 1099511627776 * 12 := Int.mul_le_mul m3 (by omega) (by omega) (by omega)
          have r3 : (cn : Int) ≠ 0 := by omega
          have r4 : ¬ (P * (D : Int) = -9223372036854775808 ∧ (cn : Int) = -1) := by omega
          obtain ⟨y, hy⟩ : ∃ y, P * (D : Int) / (cn : Int) = y := ⟨_, rfl⟩
          have y0 : 0 ≤ y := by rw [← hy]; exact Int.ediv_nonneg q0 (by omega)
          have y1 : y ≤ 1099511627776 * 12 := by
            have : y ≤ P * (D : Int) := by rw [← hy]; exact Int.ediv_le_self _ q0
            omega
          have HCP : Hid (canP P (cn : Int) D = y) := Lib.hid (by unfold canP; rw [if_neg (by omega)]; exact hy)
          have hW : IntKind.i64.wrap (P * (D : Int)) = P * (D : Int) := IntWalk.i64_in _ (by omega)
          have hQ : Int.tdiv (P * (D : Int)) (cn : Int) = y := by rw [Int.tdiv_eq_ediv_of_nonneg q0, hy]
          have e0 : w4.cell? ⟨b, 0, none⟩ = some (.int .i64 P) := HA.out.boxc 0
          have e1 : w4.cell? ⟨b, 1, none⟩ = some (.int .i64 (cn : Int)) := HA.out.boxc 1
          have e2 : w4.cell? ⟨b, 2, none⟩ = some (.slice co cn cc) := HA.out.boxc 2
          have z0 := HA.out.cell 0
          have z1 := HA.out.cell 1
          have f0 := HA.out.free 0
          have f1 := HA.out.free 1
          have hne1 : ¬ b = bo := HA.out.n1
          have HN1 := Lib.hid hne1
          have hsh : (∀ l ∈ cs.take D, l.length ≤ 10000000000000) ∧ ∀ o ∈ ([] : List Gr), o.2.length ≤ 10000000000000 := ⟨fun l hl => Nat.le_trans (S1.out l (List.mem_of_mem_take hl)) (by decide), fun o h => by cases h⟩
          have HG : Hid (Fv.At ⟨y, (D : Int), co, D, cc, none, 0, 0, cs.take D, []⟩ w) := Lib.hid ⟨(by show -9223372036854775808 ≤ y; omega), (by show y ≤ 9223372036854775807; omega), (by show -9223372036854775808 ≤ (D : Int); omega), (by show (D : Int) ≤ 9223372036854775807; omega), co_take HF.out.core d2 (show 0 < D by omega), od_none w, hsh⟩
          have HP := Lib.hid (HA.out.put10 (p' := y) (n' := (D : Int)) ⟨y, (D : Int), co, D, cc, none, 0, 0, cs.take D, []⟩ HG.out rfl rfl)
          clear hy q0 q1 HA hsh
          go_upto_region 8 with fail
          generalize hw5 : (w4.setCell ⟨bo, 1, none⟩ (.int .i64 (D : Int))).setCell ⟨bo, 0, none⟩ (.int .i64 y) = w5
          rw [hw5] at HP
          have H0 : Hid (∃ vc, CoOwn w5 (bo + 1) vc 0 (cs.take 0) ∧ Fo ⟨P, (cn : Int), co, cn, cc, oo, on, oc, cs, os⟩ y (D : Int) w w5 b ro bo (bo + 1) vc (.slice none 0 0)) := Lib.hid ⟨_, ⟨rfl, [], World.ownsRow_nil _ _ _ _, fun i hi => absurd hi (Nat.not_lt_zero _)⟩, HP.out⟩
          clear hw5 HP e0 e1 e2 z0 z1 f0 f1 hne1 HN1 HG hW hQ r3 r4 y0 y1 HTU
          go_wp2
          go_loopw [5] (fun ii wr => ∃ i : Nat, i ≤ D ∧ ii = .int .i64 i ∧ Hid (∃ vc, CoOwn wr (bo + 1) vc i (cs.take i) ∧ Fo ⟨P, (cn : Int), co, cn, cc, oo, on, oc, cs, os⟩ y (D : Int) w wr b ro bo (bo + 1) vc (.slice none 0 0))) (fun ii _ => D - (intOf ii).toNat)
          case atStart => exact ⟨0, Nat.zero_le _, rfl, H0⟩
          case round =>
            obtain ⟨i, hi, rfl, HW⟩ := hrel
            clear H0
            obtain ⟨vc, hco, han⟩ := HW.out
            have HCO := Lib.hid hco
            have HA := Lib.hid han
            clear HW hco han
            have i0 : (0 : Int) ≤ (i : Int) := by omega
            by_cases ilt : i < D
            · obtain ⟨q, p, rfl, hc⟩ := (show CoAt wr co cn cc cs from HF.out.core.keep HA.out.bw).here (by omega)
              have hil : i < cs.length := by rw [LC.out]; omega
              obtain ⟨o, m, dd, z1, y2⟩ := hc i hil
              have m1 : m ≤ 1000000 := by rw [← y2.len]; exact S1.out _ (List.getElem_mem hil)
              have HSP := Lib.hid y2
              have HML := Lib.hid y2.len
              obtain ⟨T, hT⟩ : ∃ T, cs.take (i + 1) = T := ⟨_, rfl⟩
              have HTS : Hid (T = cs.take i ++ [(cs[i]'hil)]) := Lib.hid (by rw [← hT, List.take_succ_eq_append_getElem hil])
              obtain ⟨L, hL⟩ : ∃ q, (cs[i]'hil) = q := ⟨_, rfl⟩
              rw [hL] at HSP HML HTS
              have HTT := Lib.hid hT
              have i1 : (i : Int) < (D : Int) := by omega
              have i2 : (i : Int) < (cn : Int) := by omega
              clear hc y2 hL hT
              clear hil
              have e2 : wr.cell? ⟨bo, 2, none⟩ = some vc := HA.out.cell 2
              have f2 := HA.out.free 2
              have b2 : wr.cell? ⟨b, 2, none⟩ = some (.slice (some ⟨q, p, none⟩) cn cc) := HA.out.boxc 2
              have HBR := Lib.hid ((Below.refl wr.heap.size wr).drew)
              have HBA2 := Lib.hid ((Below.refl wr.heap.size wr).alloc (Nat.le_refl _) (.cells #[] 46))
              have HBA3 := Lib.hid (((Below.refl wr.heap.size wr).alloc (Nat.le_refl _) (.cells #[] 46)).drew)
              obtain ⟨xs, hx1, hx2⟩ := HCO.out.row
              have HX1 := Lib.hid hx1
              have HX2 := Lib.hid hx2
              have HTL : Hid ((cs.take i).length = i) := Lib.hid HCO.out.len
              clear hx1 hx2
              go_upto_region 11 with fail
              have e2n := cell_keep e2 HBA2.out
              have b2n := cell_keep b2 HBA2.out
              have z1n := cell_keep z1 HBA2.out
              go_region_law (first
                | ((refine step_sp rfl _ _ rfl wr.heap.size (.slice (some ⟨wr.heap.size, 0, none⟩) 0 0) (by rfl) (by exact own00 (w := wr) (Nat.le_refl _)) o m dd L (by rfl) (HSP.out.keep HBA3.out) m1 HBA3.out.size ?_); intro a3 c3 w3 z qq; have q2 := Lib.hid (HBA3.out.trans qq); have HZ := Lib.hid z; have e2 := cell_keep e2 q2.out; have e2a := cell_keep e2 ((Below.refl _ w3).alloc (Nat.le_refl _) (.cells #[.slice a3 m c3] 31)); have b2 := cell_keep b2 q2.out; have z1 := cell_keep z1 q2.out; clear qq z)
                | ((refine step_append_lies _ rfl _ _ 22 rfl (bo + 1) 31 j0 (.slice none 0 0) 1 24 Try.underlying22 HJ.out HJ0.out HJ1.out HJ2.out rfl (by decide) vc i xs rfl ((keepB HX1.out q2.out).alloc _) ⟨w3.heap.size, 0, none⟩ 1 1 [.slice a3 m c3] rfl rfl (World.news_of_block (cs := #[.slice a3 m c3]) (t := 31) (fr := (0, 0)) (World.alloc_heap_new w3 _)) (by simp [Value.oneCell']) (by omega) (by unfold maxLen; omega) (by omega) (by have := (HA.out.keep q2.out).sz; simp; omega) _ rfl ?_); intro g2 cap w4 hown hgrow hat hlt; have HA4 := Lib.hid (((HA.out.keep q2.out).keep ((Below.refl _ w3).alloc (Nat.le_refl _) _)).grown hgrow (fun q e => (HX1.out.lt q e).1)); have e2 := HA4.out.cell 2; have f2 := HA4.out.free 2; have HO4 := Lib.hid hown; have HG4 := Lib.hid hgrow; clear hown hgrow hat hlt)
                | fail)
              all_goals
                have HN : Hid (∃ vc, CoOwn (w4.setCell ⟨bo, 2, none⟩ (.slice (some ⟨g2, 0, none⟩) (i + 1) cap)) (bo + 1) vc (i + 1) T ∧ Fo ⟨P, (cn : Int), some ⟨q, p, none⟩, cn, cc, oo, on, oc, cs, os⟩ y (D : Int) w (w4.setCell ⟨bo, 2, none⟩ (.slice (some ⟨g2, 0, none⟩) (i + 1) cap)) b ro bo (bo + 1) vc (.slice none 0 0)) := Lib.hid (by
                  have hsz := HA.out.sz
                  have k1 := HBR.out.size
                  refine ⟨_, ?_, HA4.out.put2 _⟩
                  rw [HTS.out]
                  refine (co_push ((keepB HX1.out q2.out).alloc _) HG4.out HO4.out HTL.out (fun j hj => ?_) (by rw [HML.out]; exact (own_base HZ.out hsz).alloc _)).grown (grown_cell w4 ⟨bo, 2, none⟩ _) (fun q e => .inl (by cases e; exact HA.out.hi)) (fun q e => .inl (by cases e; exact HA.out.hi))
                  obtain ⟨u, a, bb⟩ := HX2.out j hj
                  exact ⟨u, a, (keepB bb q2.out).alloc _⟩)
                generalize hw5 : w4.setCell ⟨bo, 2, none⟩ (.slice (some ⟨g2, 0, none⟩) (i + 1) cap) = w5
                rw [hw5] at HN
                clear hw5 HZ f2 e2 q2 HA4 HG4 HO4 HX1 HX2 HCO HA e2a HTS HBR z1 b2 HBA2 HBA3 HSP e2n b2n z1n
                go_wp2
                go_roundw
                case rel => exact ⟨i + 1, by omega, by go_num, by rw [HTT.out]; exact HN⟩
                case measure => simp [intOf]; omega
            · obtain rfl : D = i := by omega
              have HZ : Hid (∃ vc, CoOwn wr (bo + 1) vc D (cs.take D) ∧ Fo ⟨P, (cn : Int), co, cn, cc, oo, on, oc, cs, os⟩ (canP P (cn : Int) D) (D : Int) w wr b ro bo (bo + 1) vc (.slice none 0 0)) := Lib.hid ⟨vc, HCO.out, by rw [HCP.out]; exact HA.out⟩
              clear HCO HA
              go_wp2_with fail
              go_meet
              case rel => exact HZ
  case rest =>
    obtain ⟨vc, hco, hfo⟩ := hcut.out
    obtain ⟨p, hp⟩ : ∃ p, canP P N d0 = p := ⟨_, rfl⟩
    rw [hp] at hfo HSAM
    obtain ⟨a2, c2, rfl, _⟩ := hco.vs
    have HPP := Lib.hid hp
    have HCO := Lib.hid hco
    have HA := Lib.hid hfo
    clear hcut hco hfo hp HTU HRB
    have HPB : Hid (-9223372036854775808 ≤ p ∧ p ≤ 9223372036854775807) := Lib.hid (by obtain ⟨G, g1, _, c⟩ := HA.out.ex; rw [← g1]; exact ⟨c.f.p1, c.f.p2⟩)
    go_wp2
    go_upto_region 13 with fail
    obtain ⟨g0, hg0⟩ : ∃ g, wc.heap.size = g := ⟨_, rfl⟩
    have KD : Below wc.heap.size wc (wc.alloc (.cells #[] 43)) := (Below.refl _ wc).alloc (Nat.le_refl _) _
    have HB0 : Hid (bo + 1 ≤ g0) := Lib.hid (by rw [← hg0]; exact HA.out.sz)
    have h43 : (wc.alloc (.cells #[] 43)).heap[g0]? = some (.cells #[] 43) := by rw [← hg0, new_al]
    generalize hwd : wc.alloc (.cells #[] 43) = wd
    rw [hwd] at KD h43
    have HOD0 : Hid (OdOwn wd (bo + 1) (.slice (some ⟨g0, 0, none⟩) 0 0) 0 []) := Lib.hid ⟨rfl, [], ⟨rfl, .inr ⟨g0, 0, #[], rfl, HB0.out, h43, Nat.le_refl _, by unfold maxLen; omega, rfl, rfl⟩⟩, fun i hi => absurd hi (Nat.not_lt_zero _)⟩
    rw [hg0]
    have H0 : Hid (∃ k, k ≤ 0 ∧ OdOwn wd (bo + 1) (.slice (some ⟨g0, 0, none⟩) 0 0) k (notUsual cs P N (os.take 0)) ∧ CoOwn wd (bo + 1) (.slice a2 d0 c2) d0 (cs.take d0) ∧ Fo ⟨P, N, co, cn, cc, oo, on, oc, cs, os⟩ p (d0 : Int) w wd b ro bo (bo + 1) (.slice a2 d0 c2) (.slice none 0 0)) := Lib.hid ⟨0, Nat.le_refl _, HOD0.out, HCO.out.keep KD, HA.out.keep KD⟩
    have HLE := Lib.hid HLO.out
    clear KD h43 hwd hg0 HOD0 HCO HA HB0 HLO
    go_loopw [6, 7, 8, 9] (fun od ii s8 s9 wr => ∃ (i : Nat) (v6 : Value), i ≤ on ∧ ii = .int .i64 i ∧ od = v6 ∧ Hid (∃ k, k ≤ i ∧ OdOwn wr (bo + 1) v6 k (notUsual cs P N (os.take i)) ∧ CoOwn wr (bo + 1) (.slice a2 d0 c2) d0 (cs.take d0) ∧ Fo ⟨P, N, co, cn, cc, oo, on, oc, cs, os⟩ p (d0 : Int) w wr b ro bo (bo + 1) (.slice a2 d0 c2) (.slice none 0 0))) (fun od ii s8 s9 _ => on - (intOf ii).toNat)
    case atStart => exact ⟨0, _, Nat.zero_le _, rfl, rfl, H0⟩
    case round =>
      obtain ⟨i, v6, hi, rfl, rfl, HW⟩ := hrel
      clear H0
      obtain ⟨k, hki, hod, hco, han⟩ := HW.out
      have HOW := Lib.hid hod
      have HCO := Lib.hid hco
      have HA := Lib.hid han
      clear HW hod hco han
      have i0 : (0 : Int) ≤ (i : Int) := by omega
      have e3 : wr.cell? ⟨b, 3, none⟩ = some (.slice oo on oc) := HA.out.boxc 3
      by_cases ilt : i < on
      · obtain ⟨q, p0, rfl, hc⟩ := (show OdAt w oo on oc os from HF.out.odd).here (by omega)
        have hil : i < os.length := by rw [LO.out]; exact ilt
        obtain ⟨z0w, ⟨o, m, dd, z1w, y2w⟩, x1, x2⟩ := hc i hil
        have HQW : Hid (q < w.heap.size) := Lib.hid (cell_here z0w)
        have HSPW := Lib.hid y2w
        have z0 := cell_keep z0w HA.out.bw
        have z1 := cell_keep z1w HA.out.bw
        have y2 := y2w.keep HA.out.bw
        clear z0w z1w y2w
        have m1 : m ≤ 1000000 := by rw [← y2.len]; exact S2.out _ (List.getElem_mem hil)
        have hgd := HOD.out.good _ (List.getElem_mem hil)
        obtain ⟨r, hr⟩ : ∃ r : Bool, r = true ↔ (os[i]'hil).2 = cg cs P N (os[i]'hil).1 := by classical exact ⟨decide _, decide_eq_true_iff⟩
        have HML := Lib.hid y2.len
        have HSP := Lib.hid y2
        have HYES : Hid (r = true → notUsual cs P N (os.take (i + 1)) = notUsual cs P N (os.take i)) := Lib.hid (fun h => notUsual_yes hil (hr.1 h))
        have HNO : Hid (r = false → notUsual cs P N (os.take (i + 1)) = notUsual cs P N (os.take i) ++ [((os[i]'hil).1, (os[i]'hil).2)]) := Lib.hid (fun h => notUsual_no hil (fun z => by rw [hr.2 z] at h; cases h))
        obtain ⟨T, hT⟩ : ∃ T, notUsual cs P N (os.take (i + 1)) = T := ⟨_, rfl⟩
        obtain ⟨T0, hT0⟩ : ∃ T, notUsual cs P N (os.take i) = T := ⟨_, rfl⟩
        rw [hT, hT0] at HYES HNO
        rw [hT0] at HOW
        have HT2 := Lib.hid hT
        have HRC := Lib.hid hr
        have HFT : Hid (Fit (os[i]'hil).2) := Lib.hid (fit_good hgd.1)
        have HSM : Hid (0 < d0 → Full cs N → (moved (cset (cs.take d0) (d0 : Int) (os[i]'hil).1) (wrap64 ((os[i]'hil).1.fdiv (d0 : Int) * p)) = (os[i]'hil).2 ↔ (os[i]'hil).2 = cg cs P N (os[i]'hil).1)) := Lib.hid (fun a f => HSAM.out a f _ (List.getElem_mem hil))
        have hx3 := hgd.2
        obtain ⟨L, hL⟩ : ∃ q, (os[i]'hil).2 = q := ⟨_, rfl⟩
        obtain ⟨X, hX⟩ : ∃ q, (os[i]'hil).1 = q := ⟨_, rfl⟩
        rw [hL] at HML HSP HFT HSPW
        rw [hL, hX] at HNO HSM HRC
        rw [hX] at z0 x1 x2 hx3
        obtain ⟨x3, x4⟩ := hx3
        have i1 : (i : Int) < (on : Int) := by omega
        clear hc y2 hL hT hT0 hX hr hgd
        clear hil
        have e0 : wr.cell? ⟨bo, 0, none⟩ = some (.int .i64 p) := HA.out.cell 0
        have e1 : wr.cell? ⟨bo, 1, none⟩ = some (.int .i64 (d0 : Int)) := HA.out.cell 1
        have e2 : wr.cell? ⟨bo, 2, none⟩ = some (.slice a2 d0 c2) := HA.out.cell 2
        have e4 : wr.cell? ⟨bo, 3, none⟩ = some (.slice none 0 0) := HA.out.cell 3
        go_upto_if 56 with fail
        go_cut [8, 9] from 54 to 67 (fun s8 s9 wx => ∃ (a8 : Option Addr) (n8 c8 : Nat) (x8 : Int), s8 = .slice a8 n8 c8 ∧ s9 = .int .i64 x8 ∧ Hid (∃ L8, SpAt wx a8 n8 c8 L8 ∧ Fit L8 ∧ (-9223372036854775808 ≤ x8 ∧ x8 ≤ 9223372036854775807) ∧ (moved L8 x8 = L ↔ L = cg cs P N X)) ∧ Hid (Below wr.heap.size wr wx))
        case first =>
          by_cases d1 : d0 = 0
          · subst d1
            have t0 : ¬ (0 : Int) < ((0 : Nat) : Int) := by omega
            have HZ : Hid (∃ L8, SpAt wr none 0 0 L8 ∧ Fit L8 ∧ (-9223372036854775808 ≤ (0 : Int) ∧ (0 : Int) ≤ 9223372036854775807) ∧ (moved L8 0 = L ↔ L = cg cs P N X)) := Lib.hid ⟨[], SpAt.nil _, (fun s hs => by cases hs), ⟨by omega, by omega⟩, by
              have : ∀ l ∈ cs, l = [] := by
                rcases HT.out with ⟨_, h⟩ | ⟨_, h, _⟩
                · exact h
                · exact absurd h.pos (Nat.lt_irrefl _)
              rw [cg_bare this]
              simp only [moved, List.map_nil]
              exact eq_comm⟩
            go_wp2_with fail
            go_meet
            case rel => exact ⟨none, 0, 0, 0, rfl, rfl, HZ, Lib.hid (Below.refl _ _)⟩
          · have t0 : (0 : Int) < (d0 : Int) := by omega
            have hd1 : 0 < d0 := by omega
            have hto : TurnOk cs P N d0 := by
              rcases HT.out with ⟨h, _⟩ | ⟨_, h, _⟩
              · exact absurd h d1
              · exact h
            have hfu : Full cs N := by
              rcases HFL.out with h | h
              · exact h
              · rcases HT.out with ⟨h2, _⟩ | ⟨⟨l, hl, _⟩, _⟩
                · exact absurd h2 d1
                · rw [h] at hl; cases hl
            have hdl := turn_le hfu hto
            rw [LC.out] at hdl
            obtain ⟨_, _, hv, hca⟩ := HCO.out.vs
            cases hv
            have hGA : Fv.At ⟨p, (d0 : Int), a2, d0, c2, none, 0, 0, cs.take d0, []⟩ wr := ⟨HPB.out.1, HPB.out.2, (by show -9223372036854775808 ≤ (d0 : Int); omega), (by show (d0 : Int) ≤ 9223372036854775807; omega), hca, od_none wr, ⟨fun l hl => Nat.le_trans (S1.out l (List.mem_of_mem_take hl)) (by decide), fun o h => by cases h⟩⟩
            have HGA := Lib.hid hGA
            have HH := Lib.hid (fun W h => refHas_any ⟨p, (d0 : Int), a2, d0, c2, none, 0, 0, cs.take d0, []⟩ X W h (take_full hfu hto) (by show d0 ≤ 1000000; omega) x3 x4)
            have HH : Hid (∀ W, Fv.At ⟨p, (d0 : Int), a2, d0, c2, none, 0, 0, cs.take d0, []⟩ W → Calls Try.prog 31 #[.agg #[.int .i64 p, .int .i64 (d0 : Int), .slice a2 d0 c2, .slice none 0 0], .int .i64 X] W fun e w' => ∃ (o : Option Addr) (m d : Nat) (x : Int), e = .returned (.tuple #[.slice o m d, .int .i64 x]) ∧ Hid (x = wrap64 (X.fdiv (d0 : Int) * p)) ∧ Hid (SpAt w' o m d (cset (cs.take d0) (d0 : Int) X)) ∧ Hid (Below W.heap.size W w')) := HH
            have HSE := Lib.hid (HSM.out hd1 hfu)
            have HFX : Hid (Fit (cset (cs.take d0) (d0 : Int) X)) := Lib.hid (fit_good (cset_good (fun l hl => HGC.out l (List.mem_of_mem_take hl)) _ _))
            have HBR := Lib.hid ((Below.refl wr.heap.size wr).drew)
            clear hto hfu hdl hca hGA HSM HYES HNO HRC
            go_upto_region 19 with fail
            go_region_law (first | (go_simp; go_at_call 31; (with_reducible refine (HH.out _ (HGA.out.keep HBR.out)).mono ?_); rintro e w3 ⟨a8, n8, c8, x8, rfl, hx8, hs8, hb8⟩; have q2 := Lib.hid (HBR.out.trans hb8.out); clear hb8) | fail)
            all_goals
              have HZ : Hid (∃ L8, SpAt w3 a8 n8 c8 L8 ∧ Fit L8 ∧ (-9223372036854775808 ≤ x8 ∧ x8 ≤ 9223372036854775807) ∧ (moved L8 x8 = L ↔ L = cg cs P N X)) := Lib.hid ⟨_, hs8.out, HFX.out, by rw [hx8.out]; unfold wrap64; omega, by rw [hx8.out]; exact HSE.out⟩
              clear hx8 hs8 HH HGA HSE HFX HBR
              go_wp2_with fail
              go_meet
              case rel => exact ⟨a8, n8, c8, x8, rfl, rfl, HZ, q2⟩
        case rest =>
          obtain ⟨a8, n8, c8, x8, rfl, rfl, H8, q8⟩ := hcut
          have HS8 := Lib.hid (HSP.out.keep q8.out)
          obtain ⟨L8, s8, f8, ⟨y1, y2⟩, iff8⟩ := H8.out
          have HSAME := Lib.hid (refSame_any a8 o n8 c8 m dd L8 L x8 0 wc s8 HS8.out f8 HFT.out y1 y2 (by omega) (by omega) r (by rw [moved_zero]; exact HRC.out.trans iff8.symm))
          have HOW := Lib.hid (HOW.out.keep q8.out)
          have HCO := Lib.hid (HCO.out.keep q8.out)
          have HA := Lib.hid (HA.out.keep q8.out)
          have z0 := cell_keep z0 q8.out
          have z1 := cell_keep z1 q8.out
          have e3 : wc.cell? ⟨b, 3, none⟩ = some (.slice (some ⟨q, p0, none⟩) on oc) := HA.out.boxc 3
          clear s8 f8 y1 y2 iff8 H8 q8 e0 e1 e2 e4 HSP HRC HSM
          go_wp2_with fail
          (with_reducible refine HSAME.out.mono ?_)
          rintro e wy ⟨rfl, qy⟩
          have HOW := Lib.hid (HOW.out.keep qy)
          have HCO := Lib.hid (HCO.out.keep qy)
          have HA := Lib.hid (HA.out.keep qy)
          have HSP := Lib.hid (HS8.out.keep qy)
          have z0 := cell_keep z0 qy
          have z1 := cell_keep z1 qy
          clear qy HSAME e3 HS8
          cases r
          · have HNT := Lib.hid (HNO.out rfl)
            clear HYES HNO
            have e3 : wy.cell? ⟨b, 3, none⟩ = some (.slice (some ⟨q, p0, none⟩) on oc) := HA.out.boxc 3
            have HBR := Lib.hid ((Below.refl wy.heap.size wy).drew)
            have HKS : Hid (∀ W, Below (bo + 1) wy W → W.cell? ⟨b, 3, none⟩ = some (.slice (some ⟨q, p0, none⟩) on oc) ∧ W.cell? ⟨q, p0 + i * 2, none⟩ = some (.int .i64 X) ∧ W.cell? ⟨q, p0 + i * 2 + 1, none⟩ = some (.slice o m dd) ∧ Hid (Below (bo + 1) wy W)) := Lib.hid (fun W k => ⟨cell_low e3 k (by exact HA.out.hb), cell_low z0 k (by have := HQW.out; have := HLE.out; show q < bo + 1; omega), cell_low z1 k (by have := HQW.out; have := HLE.out; show q < bo + 1; omega), Lib.hid k⟩)
            have HSZ := Lib.hid HA.out.sz
            obtain ⟨xs, hx1, hx2⟩ := HOW.out.row
            have HX1 := Lib.hid hx1
            have HX2 := Lib.hid hx2
            have HTL : Hid (T0.length = k) := Lib.hid HOW.out.len
            clear hx1 hx2 e3 z0 z1
            go_upto_region 21 with fail
            refine wp_region_held_drew (S := (fun W => W.cell? ⟨b, 3, none⟩ = some (.slice (some ⟨q, p0, none⟩) on oc) ∧ W.cell? ⟨q, p0 + i * 2, none⟩ = some (.int .i64 X) ∧ W.cell? ⟨q, p0 + i * 2 + 1, none⟩ = some (.slice o m dd) ∧ Hid (Below (bo + 1) wy W))) (by kernel_rfl) ?_ (fun hHeld => ?_)
            · exact HKS.out _ ((Below.refl _ wy).drew)
            generalize hv0 : wy.drew = v0 at hHeld HBR ⊢
            clear hv0
            have HS0 : Hid (bo + 1 ≤ v0.heap.size) := Lib.hid (Nat.le_trans HSZ.out HBR.out.size)
            refine wpAnyH_take (i := 0) (oi := _) (v := ?_) rfl (by kernel_rfl) (by kernel_rfl) (by kernel_rfl) (fun _ _ _ h => h) (Or.inl ⟨by kernel_rfl, ?_⟩) (by assumption) ?_
            rotate_left 1
            focus (intro wq hSw; (try dsimp only at hSw); obtain ⟨s0, s1, s2, s3⟩ := hSw; go_simp; (try with_reducible rfl); done)
            try simp only [List.getElem_toArray, List.getElem_cons_zero, List.getElem_cons_succ, Act.put, List.setIfInBounds_toArray, List.set_cons_zero, List.set_cons_succ]
            refine wpAnyH_take (i := 1) (oi := _) (v := ?_) rfl (by kernel_rfl) (by kernel_rfl) (by kernel_rfl) (fun _ _ _ h => h) (Or.inl ⟨by kernel_rfl, ?_⟩) (by assumption) ?_
            rotate_left 1
            focus (intro wq hSw; (try dsimp only at hSw); obtain ⟨s0, s1, s2, s3⟩ := hSw; go_simp; (try with_reducible rfl); done)
            try simp only [List.getElem_toArray, List.getElem_cons_zero, List.getElem_cons_succ, Act.put, List.setIfInBounds_toArray, List.set_cons_zero, List.set_cons_succ]
            refine wpAnyH_take (i := 2) (oi := _) (v := ?_) rfl (by kernel_rfl) (by kernel_rfl) (by kernel_rfl) (fun _ _ _ h => h) (Or.inl ⟨by kernel_rfl, ?_⟩) (by assumption) ?_
            rotate_left 1
            focus (intro wq hSw; (try dsimp only at hSw); obtain ⟨s0, s1, s2, s3⟩ := hSw; go_simp; (try with_reducible rfl); done)
            try simp only [List.getElem_toArray, List.getElem_cons_zero, List.getElem_cons_succ, Act.put, List.setIfInBounds_toArray, List.set_cons_zero, List.set_cons_succ]
            refine wpAnyH_take (i := 3) (oi := _) (v := ?_) rfl (by kernel_rfl) (by kernel_rfl) (by kernel_rfl) (fun _ _ _ h => h) (Or.inl ⟨by kernel_rfl, ?_⟩) (by assumption) ?_
            rotate_left 1
            focus (intro wq hSw; (try dsimp only at hSw); obtain ⟨s0, s1, s2, s3⟩ := hSw; go_simp; (try with_reducible rfl); done)
            try simp only [List.getElem_toArray, List.getElem_cons_zero, List.getElem_cons_succ, Act.put, List.setIfInBounds_toArray, List.set_cons_zero, List.set_cons_succ]
            refine wpAnyH_take (i := 4) (oi := _) (v := ?_) rfl (by kernel_rfl) (by kernel_rfl) (by kernel_rfl) (fun _ _ _ h => h) (Or.inl ⟨by kernel_rfl, ?_⟩) (by assumption) ?_
            rotate_left 1
            focus (intro wq hSw; (try dsimp only at hSw); obtain ⟨s0, s1, s2, s3⟩ := hSw; go_simp; (try with_reducible rfl); done)
            try simp only [List.getElem_toArray, List.getElem_cons_zero, List.getElem_cons_succ, Act.put, List.setIfInBounds_toArray, List.set_cons_zero, List.set_cons_succ]
            refine wpAnyH_take (i := 5) (oi := _) (v := ?_) rfl (by kernel_rfl) (by kernel_rfl) (by kernel_rfl) (fun _ _ _ h => h) (Or.inl ⟨by kernel_rfl, ?_⟩) (by assumption) ?_
            rotate_left 1
            focus (intro wq hSw; (try dsimp only at hSw); obtain ⟨s0, s1, s2, s3⟩ := hSw; go_simp; (try with_reducible rfl); done)
            try simp only [List.getElem_toArray, List.getElem_cons_zero, List.getElem_cons_succ, Act.put, List.setIfInBounds_toArray, List.set_cons_zero, List.set_cons_succ]
            refine wpAnyH_take (i := 6) (oi := _) (v := ?_) rfl (by kernel_rfl) (by kernel_rfl) (by kernel_rfl) (fun _ _ _ h => h) (Or.inl ⟨by kernel_rfl, ?_⟩) (by assumption) ?_
            rotate_left 1
            focus (intro wq hSw; (try dsimp only at hSw); obtain ⟨s0, s1, s2, s3⟩ := hSw; go_simp; (try with_reducible rfl); done)
            try simp only [List.getElem_toArray, List.getElem_cons_zero, List.getElem_cons_succ, Act.put, List.setIfInBounds_toArray, List.set_cons_zero, List.set_cons_succ]
            refine wpAnyH_take (i := 8) (oi := _) (v := ?_) rfl (by kernel_rfl) (by kernel_rfl) (by kernel_rfl) (fun _ _ _ h => h) (Or.inl ⟨by kernel_rfl, ?_⟩) (by assumption) ?_
            rotate_left 1
            focus (intro wq hSw; (try dsimp only at hSw); obtain ⟨s0, s1, s2, s3⟩ := hSw; go_simp; (try with_reducible rfl); done)
            try simp only [List.getElem_toArray, List.getElem_cons_zero, List.getElem_cons_succ, Act.put, List.setIfInBounds_toArray, List.set_cons_zero, List.set_cons_succ]
            refine wpAnyH_take (i := 9) (oi := _) (v := ?_) rfl (by kernel_rfl) (by kernel_rfl) (by kernel_rfl) (fun _ _ _ h => h) (Or.inl ⟨by kernel_rfl, ?_⟩) (by assumption) ?_
            rotate_left 1
            focus (intro wq hSw; (try dsimp only at hSw); obtain ⟨s0, s1, s2, s3⟩ := hSw; go_simp; (try with_reducible rfl); done)
            try simp only [List.getElem_toArray, List.getElem_cons_zero, List.getElem_cons_succ, Act.put, List.setIfInBounds_toArray, List.set_cons_zero, List.set_cons_succ]
            refine wpAnyH_take (i := 10) (oi := _) (v := ?_) rfl (by kernel_rfl) (by kernel_rfl) (by kernel_rfl) (fun _ _ _ h => h) (Or.inl ⟨by kernel_rfl, ?_⟩) (by assumption) ?_
            rotate_left 1
            focus (intro wq hSw; (try dsimp only at hSw); obtain ⟨s0, s1, s2, s3⟩ := hSw; go_simp; (try with_reducible rfl); done)
            try simp only [List.getElem_toArray, List.getElem_cons_zero, List.getElem_cons_succ, Act.put, List.setIfInBounds_toArray, List.set_cons_zero, List.set_cons_succ]
            refine wpAnyH_take (i := 11) (oi := _) (v := ?_) rfl (by kernel_rfl) (by kernel_rfl) (by kernel_rfl) (fun _ _ _ h => h) (Or.inl ⟨by kernel_rfl, ?_⟩) (by assumption) ?_
            rotate_left 1
            focus (intro wq hSw; (try dsimp only at hSw); obtain ⟨s0, s1, s2, s3⟩ := hSw; go_simp; (try with_reducible rfl); done)
            try simp only [List.getElem_toArray, List.getElem_cons_zero, List.getElem_cons_succ, Act.put, List.setIfInBounds_toArray, List.set_cons_zero, List.set_cons_succ]
            refine wpAnyH_take (i := 12) (oi := _) (v := ?_) rfl (by kernel_rfl) (by kernel_rfl) (by kernel_rfl) (fun _ _ _ h => h) (Or.inl ⟨by kernel_rfl, ?_⟩) (by assumption) ?_
            rotate_left 1
            focus (intro wq hSw; (try dsimp only at hSw); obtain ⟨s0, s1, s2, s3⟩ := hSw; go_simp; (try with_reducible rfl); done)
            try simp only [List.getElem_toArray, List.getElem_cons_zero, List.getElem_cons_succ, Act.put, List.setIfInBounds_toArray, List.set_cons_zero, List.set_cons_succ]
            refine wpAnyH_take (i := 13) (oi := _) (v := ?_) rfl (by kernel_rfl) (by kernel_rfl) (by kernel_rfl) (fun _ _ _ h => h) (Or.inl ⟨by kernel_rfl, ?_⟩) (by assumption) ?_
            rotate_left 1
            focus (intro wq hSw; (try dsimp only at hSw); obtain ⟨s0, s1, s2, s3⟩ := hSw; go_simp; (try with_reducible rfl); done)
            try simp only [List.getElem_toArray, List.getElem_cons_zero, List.getElem_cons_succ, Act.put, List.setIfInBounds_toArray, List.set_cons_zero, List.set_cons_succ]
            refine wpAnyH_ready (rs := [7]) (by kernel_rfl) (by simp) ?_
            refine AllReadyH.cons (o := _) rfl (fun K hK => ?_) AllReadyH.nil
            rw [if_pos (by kernel_rfl)]
            go_simp
            have K2 := Lib.hid (HBR.out.trans (((Below.refl v0.heap.size v0).alloc (Nat.le_refl _) (.cells #[] 46)).mono HBR.out.size))
            have qk := K2.out.mono HSZ.out
            refine hK.out _ _ ?_ (fun hHeld => ?_)
            · exact HKS.out _ qk
            clear hK K
            try simp only [List.getElem_toArray, List.getElem_cons_zero, List.getElem_cons_succ, Act.put, List.setIfInBounds_toArray, List.set_cons_zero, List.set_cons_succ]
            refine wpAnyH_ready (rs := [14]) (by kernel_rfl) (by simp) ?_
            refine AllReadyH.cons (o := _) rfl (fun K hK => ?_) AllReadyH.nil
            refine step_sp rfl _ _ rfl wy.heap.size (.slice (some ⟨v0.heap.size, 0, none⟩) 0 0) (by rfl) (by exact own00 (w := v0) HBR.out.size) o m dd L (by rfl) (HSP.out.keep K2.out) m1 K2.out.size ?_
            intro a3 c3 w3 z qq
            have K3 := Lib.hid (K2.out.trans qq)
            have HZ := Lib.hid (own_base z HSZ.out)
            have qk := K3.out.mono HSZ.out
            clear qq z
            refine hK.out _ _ ?_ (fun hHeld => ?_)
            · exact HKS.out _ qk
            clear hK K
            try simp only [List.getElem_toArray, List.getElem_cons_zero, List.getElem_cons_succ, Act.put, List.setIfInBounds_toArray, List.set_cons_zero, List.set_cons_succ]
            refine wpAnyH_take (i := 15) (oi := _) (v := ?_) rfl (by kernel_rfl) (by kernel_rfl) (by kernel_rfl) (fun _ _ _ h => h) (Or.inl ⟨by kernel_rfl, ?_⟩) (by assumption) ?_
            rotate_left 1
            focus (intro wq hSw; (try dsimp only at hSw); obtain ⟨s0, s1, s2, s3⟩ := hSw; go_simp; (try with_reducible rfl); done)
            try simp only [List.getElem_toArray, List.getElem_cons_zero, List.getElem_cons_succ, Act.put, List.setIfInBounds_toArray, List.set_cons_zero, List.set_cons_succ]
            refine wpAnyH_ready (rs := [16]) (by kernel_rfl) (by simp) ?_
            refine AllReadyH.cons (o := _) rfl (fun K hK => ?_) AllReadyH.nil
            rw [if_pos (by kernel_rfl)]
            go_simp
            have K4 := Lib.hid (K3.out.trans (((Below.refl w3.heap.size w3).alloc (Nat.le_refl _) (.cells #[.int .i64 X, .slice a3 m c3] 43)).mono K3.out.size))
            have qk := K4.out.mono HSZ.out
            refine hK.out _ _ ?_ (fun hHeld => ?_)
            · exact HKS.out _ qk
            clear hK K
            try simp only [List.getElem_toArray, List.getElem_cons_zero, List.getElem_cons_succ, Act.put, List.setIfInBounds_toArray, List.set_cons_zero, List.set_cons_succ]
            refine wpAnyH_ready (rs := [17]) (by kernel_rfl) (by simp) ?_
            refine AllReadyH.cons (o := _) rfl (fun K hK => ?_) AllReadyH.nil
            have HX4 := Lib.hid (keepB HX1.out K4.out)
            refine step_append_lies _ rfl _ _ 23 rfl (bo + 1) 43 k0 (.agg #[.int .i64 0, .slice none 0 0]) 2 32 Try.underlying23 HK.out HK0.out HK1.out HK2.out rfl (by decide) u6 k xs (by rfl) HX4.out ⟨w3.heap.size, 0, none⟩ 1 1 [.int .i64 X, .slice a3 m c3] (by rfl) rfl (World.news_of_block (cs := #[.int .i64 X, .slice a3 m c3]) (t := 43) (fr := (0, 0)) (World.alloc_heap_new w3 _)) (by simp [Value.oneCell']) (by omega) (by unfold maxLen; omega) (by omega) (Nat.le_trans HSZ.out K4.out.size) _ rfl ?_
            intro g2 cap w4 hown hgrow hat hlt
            have HO4 := Lib.hid hown
            have HG4 := Lib.hid hgrow
            have qk := (K4.out.mono HSZ.out).grown hgrow (Nat.le_trans HSZ.out K4.out.size) (fun q e => (HX4.out.lt q e).1)
            clear hown hgrow hat hlt
            refine hK.out _ _ ?_ (fun hHeld => ?_)
            · exact HKS.out _ qk
            clear hK K
            try simp only [List.getElem_toArray, List.getElem_cons_zero, List.getElem_cons_succ, Act.put, List.setIfInBounds_toArray, List.set_cons_zero, List.set_cons_succ]
            refine wpAnyH_take (i := 18) (oi := _) (v := ?_) rfl (by kernel_rfl) (by kernel_rfl) (by kernel_rfl) (fun _ _ _ h => h) (Or.inl ⟨by kernel_rfl, ?_⟩) (by assumption) ?_
            rotate_left 1
            focus (intro wq hSw; (try dsimp only at hSw); obtain ⟨s0, s1, s2, s3⟩ := hSw; go_simp; (try with_reducible rfl); done)
            try simp only [List.getElem_toArray, List.getElem_cons_zero, List.getElem_cons_succ, Act.put, List.setIfInBounds_toArray, List.set_cons_zero, List.set_cons_succ]
            refine wpAnyH_done (by kernel_rfl) ?_ _
            have HN : Hid (∃ kk, kk ≤ i + 1 ∧ OdOwn w4 (bo + 1) (.slice (some ⟨g2, 0, none⟩) (k + 1) cap) kk T ∧ CoOwn w4 (bo + 1) (.slice a2 d0 c2) d0 (cs.take d0) ∧ Fo ⟨P, N, co, cn, cc, some ⟨q, p0, none⟩, on, oc, cs, os⟩ p (d0 : Int) w w4 b ro bo (bo + 1) (.slice a2 d0 c2) (.slice none 0 0)) := Lib.hid (by
              have off : ∀ e : Nat, 43 ≠ e → Off (w3.alloc (.cells #[.int .i64 X, .slice a3 m c3] 43)) (bo + 1) e u6.ownBlock := fun e he q z => by
                obtain ⟨cur, t⟩ := own_typed HX4.out z
                exact .inr ⟨cur, 43, t, he⟩
              refine ⟨k + 1, by omega, ?_, ((HCO.out.keep K4.out).grown HG4.out (off _ (by decide)) (off _ (by decide))), (HA.out.keep K4.out).grown HG4.out (fun q e => (HX4.out.lt q e).1)⟩
              rw [HNT.out]
              refine od_push HX4.out HG4.out HO4.out HTL.out (fun j hj => ?_) (by rw [HML.out]; exact HZ.out.alloc _) ⟨x1, x2⟩
              obtain ⟨y, ⟨u, a, bb⟩, c⟩ := HX2.out j hj
              exact ⟨y, ⟨u, a, keepB bb K4.out⟩, c⟩)
            clear HZ HG4 HO4 HX1 HX4 K4 HX2 HCO HA HNT HBR HSP HOW HKS HSZ hHeld
            go_wp2
            go_roundw
            case rel => exact ⟨i + 1, _, by omega, by go_num, rfl, by rw [HT2.out]; exact HN⟩
            case measure => simp [intOf]; omega
          · have HNT := Lib.hid (HYES.out rfl)
            clear HYES HNO
            have HN : Hid (∃ kk, kk ≤ i + 1 ∧ OdOwn wy (bo + 1) u6 kk T ∧ CoOwn wy (bo + 1) (.slice a2 d0 c2) d0 (cs.take d0) ∧ Fo ⟨P, N, co, cn, cc, some ⟨q, p0, none⟩, on, oc, cs, os⟩ p (d0 : Int) w wy b ro bo (bo + 1) (.slice a2 d0 c2) (.slice none 0 0)) := Lib.hid ⟨k, by omega, by rw [HNT.out]; exact HOW.out, HCO.out, HA.out⟩
            clear HNT HOW HCO HA HSP z0 z1
            go_wp2
            go_roundw
            case rel => exact ⟨i + 1, _, by omega, by go_num, rfl, by rw [HT2.out]; exact HN⟩
            case measure => simp [intOf]; omega
      · obtain rfl : on = i := by omega
        have HOO : Hid (OdOwn wr (bo + 1) u6 k (canOs ⟨P, N, co, cn, cc, oo, on, oc, cs, os⟩)) := Lib.hid (by
          have h := HOW.out
          rw [List.take_of_length_le (by rw [LO.out]; exact Nat.le_refl _)] at h
          exact h)
        clear HOW
        obtain ⟨qo, q2c, rfl, _⟩ := HOO.out.vs
        have hkl := HOO.out.len
        obtain ⟨M, hM⟩ : ∃ M, canOs ⟨P, N, co, cn, cc, oo, on, oc, cs, os⟩ = M := ⟨_, rfl⟩
        have HMM := Lib.hid hM
        rw [hM] at HOO hkl
        have HKL := Lib.hid hkl
        clear hM hkl
        have e4 : wr.cell? ⟨bo, 3, none⟩ = some (.slice none 0 0) := HA.out.cell 3
        have f4 := HA.out.free 3
        go_upto_region 23 with fail
        have HA := Lib.hid (HA.out.put3 (.slice qo k q2c))
        have HCO := Lib.hid (HCO.out.grown (grown_cell wr ⟨bo, 3, none⟩ (.slice qo k q2c)) (fun q e => .inl (by cases e; exact Nat.lt_succ_self bo)) (fun q e => .inl (by cases e; exact Nat.lt_succ_self bo)))
        have HOO := Lib.hid (HOO.out.grown (grown_cell wr ⟨bo, 3, none⟩ (.slice qo k q2c)) (fun q e => .inl (by cases e; exact Nat.lt_succ_self bo)) (fun q e => .inl (by cases e; exact Nat.lt_succ_self bo)))
        generalize hwq : wr.setCell ⟨bo, 3, none⟩ (.slice qo k q2c) = wq
        rw [hwq] at HA HCO HOO
        clear hwq e4 f4 e3
        have e0 : wq.cell? ⟨bo, 0, none⟩ = some (.int .i64 p) := HA.out.cell 0
        have e1 : wq.cell? ⟨bo, 1, none⟩ = some (.int .i64 (d0 : Int)) := HA.out.cell 1
        have e2 : wq.cell? ⟨bo, 2, none⟩ = some (.slice a2 d0 c2) := HA.out.cell 2
        have e3 : wq.cell? ⟨bo, 3, none⟩ = some (.slice qo k q2c) := HA.out.cell 3
        have r0 := HA.out.resc 0
        have r1 := HA.out.resc 1
        have r2 := HA.out.resc 2
        have r3 := HA.out.resc 3
        have f0 := HA.out.rfree 0
        have f1 := HA.out.rfree 1
        have f2 := HA.out.rfree 2
        have f3 := HA.out.rfree 3
        go_wp2_with fail
        have HRS := Lib.hid (put_four HA.out.res (.int .i64 p) (.int .i64 (d0 : Int)) (.slice a2 d0 c2) (.slice qo k q2c))
        have HGF := Lib.hid (grown_four wq ro (.int .i64 p) (.int .i64 (d0 : Int)) (.slice a2 d0 c2) (.slice qo k q2c))
        generalize hwf : (((wq.setCell ⟨ro, 0, none⟩ (.int .i64 p)).setCell ⟨ro, 1, none⟩ (.int .i64 (d0 : Int))).setCell ⟨ro, 2, none⟩ (.slice a2 d0 c2)).setCell ⟨ro, 3, none⟩ (.slice qo k q2c) = wf
        rw [hwf] at HRS HGF
        clear hwf e0 e1 e2 e3 r0 r1 r2 r3 f0 f1 f2 f3
        have HC2 := Lib.hid (HCO.out.grown HGF.out (fun q e => .inl (by cases e; exact HA.out.hi2)) (fun q e => .inl (by cases e; exact HA.out.hi2)))
        have HO2 := Lib.hid (HOO.out.grown HGF.out (fun q e => .inl (by cases e; exact HA.out.hi2)) (fun q e => .inl (by cases e; exact HA.out.hi2)))
        have HBW := Lib.hid (HA.out.bw.grown HGF.out HA.out.bw.size (fun q e => by cases e; exact HA.out.lo2))
        have r0 : wf.cell? ⟨ro, 0, none⟩ = some (.int .i64 p) := cell_block HRS.out 0
        have r1 : wf.cell? ⟨ro, 1, none⟩ = some (.int .i64 (d0 : Int)) := cell_block HRS.out 1
        have r2 : wf.cell? ⟨ro, 2, none⟩ = some (.slice a2 d0 c2) := cell_block HRS.out 2
        have r3 : wf.cell? ⟨ro, 3, none⟩ = some (.slice qo k q2c) := cell_block HRS.out 3
        have hle := HLE.out
        exact bodyPost_ret (v := .agg #[.int .i64 p, .int .i64 (d0 : Int), .slice a2 d0 c2, .slice qo k q2c]) (by simp [results, Try.results12, go_sem, r0, r1, r2, r3]) rfl ⟨d0, _, _, by rw [show canP (Fv.P ⟨P, N, co, cn, cc, oo, on, oc, cs, os⟩) (Fv.N ⟨P, N, co, cn, cc, oo, on, oc, cs, os⟩) d0 = p from HPP.out], HT, Lib.hid ⟨HC2.out.mono hle, by rw [HMM.out, HKL.out]; exact HO2.out.mono hle⟩, HBW⟩
theorem ss_short {F : Fv} (h : F.Small) : (∀ l ∈ F.cs, l.length ≤ 60) ∧ ∀ o ∈ F.os, o.2.length ≤ 60 := by
  have h3 : lens F.cs + lens (tks F.os) ≤ 60 := h.2.2
  exact ⟨fun l hl => by have := le_lens hl; omega, fun o ho => by have : o.2.length ≤ lens (tks F.os) := le_lens (List.mem_map.2 ⟨o, ho, rfl⟩); omega⟩
theorem anew_g (F : Fv) (W : World) (h : F.At W) (s : F.Small) : Calls Try.prog 10 #[F.v] W fun e w' => ∃ (c2 : Option Addr) (k2 : Nat) (o2 : Option Addr) (j2 : Nat), e = .returned (.agg #[.int .i64 F.P, .int .i64 F.N, .slice c2 F.cn k2, .slice o2 F.on j2]) ∧ Hid (Fv.At ⟨F.P, F.N, c2, F.cn, k2, o2, F.on, j2, F.cs, F.os⟩ w') ∧ Hid (Below W.heap.size W w') := by
  have ss := ss_short s
  refine (anewForm_any F W h (Nat.le_trans s.1 (by decide)) (Nat.le_trans s.2.1 (by decide)) (fun l hl => Nat.le_trans (ss.1 l hl) (by decide)) (fun o ho => Nat.le_trans (ss.2 o ho) (by decide))).mono ?_
  rintro e w' ⟨vc, vo, rfl, hc, q⟩
  obtain ⟨a1, c1, rfl, x1⟩ := hc.out.1.vs
  obtain ⟨a2, c2, rfl, x2⟩ := hc.out.2.vs
  exact ⟨a1, c1, a2, c2, rfl, Lib.hid ⟨h.p1, h.p2, h.n1, h.n2, x1, x2, h.short⟩, q⟩
/-- The document's form, as a form of the call's own. -/
theorem ref_ok (F : Fv) (hs : F.Small) (rt : F.Rt) (W : World) (h : F.At W) : Calls Try.prog 12 #[F.v] W fun e w' => ∃ G : Fv, e = .returned G.v ∧ IsCan F G ∧ G.Own w' W.heap.size ∧ Below W.heap.size W w' := by
  have ss := ss_short hs
  have hP := meas_P rt.meas
  have hN := meas_N rt.meas
  have hl := h.core.len
  have hc := hs.1
  refine (refForm_any F W h rt hs).mono ?_
  rintro e w' ⟨d, vc, vo, rfl, ht, ho, q⟩
  obtain ⟨a1, c1, rfl, x1⟩ := ho.out.1.vs
  obtain ⟨a2, c2, rfl, x2⟩ := ho.out.2.vs
  have hd : d ≤ 12 ∧ (-9223372036854775808 ≤ canP F.P F.N d ∧ canP F.P F.N d ≤ 9223372036854775807) := by
    rcases ht.out with ⟨z, _⟩ | ⟨⟨l, hl1, _⟩, t, _⟩
    · subst z; exact ⟨by omega, by unfold canP; rw [if_pos rfl]; omega⟩
    · have f : Full F.cs F.N := by
        rcases meas_full rt.meas hl with f | f
        · exact f
        · rw [f] at hl1; cases hl1
      have h1 := turn_le f t
      have h2 := canP_mul t
      have h4 := f.1
      have e : F.N * canP F.P F.N d = F.P * (d : Int) := h2
      have k1 : F.P * (d : Int) ≤ F.P * F.N := Int.mul_le_mul_of_nonneg_left (by rw [f.2]; omega) hP.1
      have k2 : 0 ≤ F.P * (d : Int) := Int.mul_nonneg hP.1 (by omega)
      have k3 : canP F.P F.N d ≤ F.P := Int.le_of_mul_le_mul_left (a := F.N) (by rw [e, Int.mul_comm F.N F.P]; exact k1) h4
      have k4 : 0 ≤ canP F.P F.N d := Int.le_of_mul_le_mul_left (a := F.N) (by rw [e, Int.mul_zero]; exact k2) h4
      exact ⟨by omega, by omega, by omega⟩
  refine ⟨⟨canP F.P F.N d, (d : Int), a1, d, c1, a2, (canOs F).length, c2, F.cs.take d, canOs F⟩, rfl, ⟨ht.out, rfl, rfl, rfl, rfl⟩, ⟨ho.out.1, ho.out.2, hd.2.1, hd.2.2, (by show -9223372036854775808 ≤ (d : Int); omega), (by show (d : Int) ≤ 9223372036854775807; omega), fun l hl => Nat.le_trans (ss.1 l (List.mem_of_mem_take hl)) (by decide), fun o ho => Nat.le_trans (ss.2 o (List.mem_filter.1 ho).1) (by decide)⟩, q.out⟩
/-- Whether a form is canonical, and whether it is as its canonical form stands. -/
theorem is_same {F H : Fv} (c : IsCan F H) (rt : F.Rt) (hl : F.cs.length = F.cn) : SameF F H ↔ IsTurn F.cs F.P F.N F.cn ∧ ∀ o ∈ F.os, o.2 ≠ cg F.cs F.P F.N o.1 := by
  have hN := meas_N rt.meas
  constructor
  · rintro ⟨h1, h2, h3, h4⟩
    have e : H.cn = F.cn := by have := c.N; omega
    refine ⟨e ▸ c.turn, fun o ho z => ?_⟩
    rw [h4, c.os] at ho
    have := (List.mem_filter.1 ho).2
    simp [z] at this
  · rintro ⟨h1, h2⟩
    have e : H.cn = F.cn := isTurn_unique c.turn h1
    refine ⟨?_, by rw [c.N, e, hN], by rw [c.cs, e, ← hl, List.take_length], ?_⟩
    · rw [c.P, e]
      unfold canP
      rcases rt.meas with ⟨_, z1, z2⟩ | ⟨z0, z1, _⟩
      · rw [if_pos z2, z1]
      · rw [if_neg (by omega), ← z1, Int.mul_ediv_cancel _ z0]
    · rw [c.os]
      unfold canOs
      symm
      rw [List.filter_eq_self]
      intro o ho
      have := h2 o ho
      simp [this]
theorem own_between {w W : World} {B e s n : Nat} {v : Value} {xs : List Value} (h : w.ownsRow B e s v n xs) (k : ∀ q, B ≤ q → q < w.heap.size → W.heap[q]? = w.heap[q]?) : W.ownsRow B e s v n xs := by
  refine ⟨h.1, ?_⟩
  rcases h.2 with z | ⟨g, cap, cur, e1, h2, h3, h4⟩
  · exact .inl z
  · exact .inr ⟨g, cap, cur, e1, h2, (k g h2 (Array.getElem?_eq_some_iff.1 h3).1).trans h3, h4⟩
theorem ownF_between {G : Fv} {w W : World} {B : Nat} (h : G.Own w B) (k : ∀ q, B ≤ q → q < w.heap.size → W.heap[q]? = w.heap[q]?) : G.Own W B := by
  obtain ⟨l1, xs, r1, i1⟩ := h.co
  obtain ⟨l2, ys, r2, i2⟩ := h.od
  refine ⟨⟨l1, xs, own_between r1 k, fun i hi => ?_⟩, ⟨l2, ys, own_between r2 k, fun i hi => ?_⟩, h.p1, h.p2, h.n1, h.n2, h.short⟩
  · obtain ⟨u, a, b⟩ := i1 i hi
    exact ⟨u, a, own_between b k⟩
  · obtain ⟨a, ⟨u, b, c⟩, d⟩ := i2 i hi
    exact ⟨a, ⟨u, b, own_between c k⟩, d⟩
/-- Two new boxes are written. -/
theorem two_end {zs : World} {b4 b5 : Nat} {x0 x1 x2 x3 y0 y1 y2 y3 : Value} (h4 : zs.heap[b4]? = some (.cells #[.int .i64 0, .int .i64 0, .slice none 0 0, .slice none 0 0] 25 (0, 0))) (h5 : zs.heap[b5]? = some (.cells #[.int .i64 0, .int .i64 0, .slice none 0 0, .slice none 0 0] 25 (0, 0))) (hne : b4 ≠ b5) {wE : World}
    (e : wE = (((((((zs.setCell ⟨b4, 0, none⟩ x0).setCell ⟨b4, 1, none⟩ x1).setCell ⟨b4, 2, none⟩ x2).setCell ⟨b4, 3, none⟩ x3).setCell ⟨b5, 0, none⟩ y0).setCell ⟨b5, 1, none⟩ y1).setCell ⟨b5, 2, none⟩ y2).setCell ⟨b5, 3, none⟩ y3) :
    wE.heap[b4]? = some (.cells #[x0, x1, x2, x3] 25 (0, 0)) ∧ wE.heap[b5]? = some (.cells #[y0, y1, y2, y3] 25 (0, 0)) ∧ (∀ q, q < zs.heap.size → q ≠ b4 → q ≠ b5 → wE.heap[q]? = zs.heap[q]?) ∧ ∀ n, n ≤ b4 → n ≤ b5 → n ≤ zs.heap.size → Below n zs wE := by
  subst e
  have g1 := grown_four zs b4 x0 x1 x2 x3
  have p1 := put_four h4 x0 x1 x2 x3
  generalize (((zs.setCell ⟨b4, 0, none⟩ x0).setCell ⟨b4, 1, none⟩ x1).setCell ⟨b4, 2, none⟩ x2).setCell ⟨b4, 3, none⟩ x3 = z1 at *
  have lt4 := (Array.getElem?_eq_some_iff.1 h4).1
  have lt5 := (Array.getElem?_eq_some_iff.1 h5).1
  have k5 := (g1.block b5 lt5 (fun z => hne (Option.some.inj z).symm)).trans h5
  have g2 := grown_four z1 b5 y0 y1 y2 y3
  have p2 := put_four k5 y0 y1 y2 y3
  have hs := g1.size
  refine ⟨(g2.block b4 (by omega) (fun z => hne (Option.some.inj z))).trans p1, p2, fun q hq n4 n5 => (g2.block q (by omega) (fun z => n5 (Option.some.inj z))).trans (g1.block q hq (fun z => n4 (Option.some.inj z))), fun n a b c => ?_⟩
  exact ((Below.refl n zs).grown g1 c (fun q z => by cases z; exact a)).grown g2 (Nat.le_trans c hs) (fun q z => by cases z; exact b)
structure Quad (w W : World) (b1 b2 b4 b5 : Nat) (Fa Fb Fc Fd : Fv) : Prop where
  a : Fbox Fa w W b1
  b : Fbox Fb w W b2
  c : Fbox Fc w W b4
  d : Fbox Fd w W b5
theorem Quad.keep {w W W' : World} {b1 b2 b4 b5 : Nat} {Fa Fb Fc Fd : Fv} (h : Quad w W b1 b2 b4 b5 Fa Fb Fc Fd) (k : Below W.heap.size W W') : Quad w W' b1 b2 b4 b5 Fa Fb Fc Fd := ⟨h.a.keep k, h.b.keep k, h.c.keep k, h.d.keep k⟩
structure PairT (w W : World) (b1 b2 : Nat) (Fa Fb : Fv) : Prop where
  a : Fbox Fa w W b1
  b : Fbox Fb w W b2
theorem PairT.keep {w W W' : World} {b1 b2 : Nat} {Fa Fb : Fv} (h : PairT w W b1 b2 Fa Fb) (k : Below W.heap.size W W') : PairT w W' b1 b2 Fa Fb := ⟨h.a.keep k, h.b.keep k⟩
set_option maxRecDepth 8000 in
set_option maxHeartbeats 8000000 in
theorem canonTells_walk (F : Fv) (w : World) (hF : F.At w) :
    Calls Try.prog 3 #[F.v] w fun e w' => e = .returned (.bool true) ∧ Below w.heap.size w w' := by
  have HAW := Lib.hid (fun W => awake_any W)
  obtain ⟨P1, N1, co1, cn1, cc1, oo1, on1, oc1, cs1, os1⟩ := F
  obtain ⟨b, hb⟩ : ∃ b, w.heap.size = b := ⟨_, rfl⟩
  obtain ⟨wb, hwb⟩ : ∃ wb, w.alloc (.cells #[.int .i64 P1, .int .i64 N1, .slice co1 cn1 cc1, .slice oo1 on1 oc1] 25) = wb := ⟨_, rfl⟩
  have KW : Below w.heap.size w wb := by rw [← hwb]; exact (Below.refl _ w).alloc (Nat.le_refl _) _
  have B1 : wb.heap[b]? = some (.cells #[.int .i64 P1, .int .i64 N1, .slice co1 cn1 cc1, .slice oo1 on1 oc1] 25) := by rw [← hwb, ← hb, new_al]
  have HX : Hid (Fbox ⟨P1, N1, co1, cn1, cc1, oo1, on1, oc1, cs1, os1⟩ w wb b) := Lib.hid (fbox_at (hF.keep KW) B1 KW)
  have LC1 : Hid (cs1.length = cn1) := Lib.hid hF.core.len
  clear hF KW B1
  obtain ⟨rF, hrF⟩ : ∃ r : Bool, r = true ↔ Fv.Small ⟨P1, N1, co1, cn1, cc1, oo1, on1, oc1, cs1, os1⟩ ∧ Fv.Rt ⟨P1, N1, co1, cn1, cc1, oo1, on1, oc1, cs1, os1⟩ := by classical exact ⟨decide _, decide_eq_true_iff⟩
  have HRF := Lib.hid hrF
  have C1 : Hid (∀ W, Fv.At ⟨P1, N1, co1, cn1, cc1, oo1, on1, oc1, cs1, os1⟩ W → Calls Try.prog 8 #[.agg #[.int .i64 P1, .int .i64 N1, .slice co1 cn1 cc1, .slice oo1 on1 oc1]] W fun e w' => e = .returned (.bool rF) ∧ Below W.heap.size W w') := Lib.hid (fun W h => right_any2 ⟨P1, N1, co1, cn1, cc1, oo1, on1, oc1, cs1, os1⟩ W h rF hrF)
  clear hrF
  show Calls Try.prog 3 #[.agg #[.int .i64 P1, .int .i64 N1, .slice co1 cn1 cc1, .slice oo1 on1 oc1]] w _
  go_enter Try.func3, Try.ntmps3
  go_upto_region 1 with fail
  clear hwb hb
  have a0 : wb.cell? ⟨b, 0, none⟩ = some (.int .i64 P1) := HX.out.c0
  have a1 : wb.cell? ⟨b, 1, none⟩ = some (.int .i64 N1) := HX.out.c1
  have a2 : wb.cell? ⟨b, 2, none⟩ = some (.slice co1 cn1 cc1) := HX.out.c2
  have a3 : wb.cell? ⟨b, 3, none⟩ = some (.slice oo1 on1 oc1) := HX.out.c3
  go_wp2_with fail
  (with_reducible refine (C1.out _ HX.out.at_).mono ?_)
  rintro e v0 ⟨rfl, q⟩
  have HX := Lib.hid (HX.out.keep q)
  clear a0 a1 a2 a3 q C1
  cases rF
  · skip
    go_wp2_with fail
    (with_reducible refine (HAW.out _).mono ?_)
    rintro e wz ⟨rfl, qz⟩
    have HZ := Lib.hid (HX.out.bw.trans (qz.mono HX.out.bw.size))
    clear qz
    go_wp2
    go_returns
    exact ⟨rfl, HZ.out⟩
  · have HSR1 := Lib.hid (HRF.out.1 (by first | rfl | trivial))
    clear HRF
    have AN : Hid (∀ W, Fv.At ⟨P1, N1, co1, cn1, cc1, oo1, on1, oc1, cs1, os1⟩ W → Calls Try.prog 10 #[.agg #[.int .i64 P1, .int .i64 N1, .slice co1 cn1 cc1, .slice oo1 on1 oc1]] W fun e w' => ∃ (c2 : Option Addr) (k2 : Nat) (o2 : Option Addr) (j2 : Nat), e = .returned (.agg #[.int .i64 P1, .int .i64 N1, .slice c2 cn1 k2, .slice o2 on1 j2]) ∧ Hid (Fv.At ⟨P1, N1, c2, cn1, k2, o2, on1, j2, cs1, os1⟩ w') ∧ Hid (Below W.heap.size W w')) := Lib.hid (fun W h => anew_g ⟨P1, N1, co1, cn1, cc1, oo1, on1, oc1, cs1, os1⟩ W h HSR1.out.1)
    have a0 : v0.cell? ⟨b, 0, none⟩ = some (.int .i64 P1) := HX.out.c0
    have a1 : v0.cell? ⟨b, 1, none⟩ = some (.int .i64 N1) := HX.out.c1
    have a2 : v0.cell? ⟨b, 2, none⟩ = some (.slice co1 cn1 cc1) := HX.out.c2
    have a3 : v0.cell? ⟨b, 3, none⟩ = some (.slice oo1 on1 oc1) := HX.out.c3
    go_wp2_with fail
    (with_reducible refine (AN.out _ HX.out.at_).mono ?_)
    rintro e v1 ⟨co2, cc2, oo2, oc2, rfl, HG, q⟩
    have HX := Lib.hid (HX.out.keep q.out)
    clear a0 a1 a2 a3 q AN
    obtain ⟨b2, hb2⟩ : ∃ b2, v1.heap.size = b2 := ⟨_, rfl⟩
    obtain ⟨v2, hv2⟩ : ∃ v2, v1.alloc (.cells #[.int .i64 P1, .int .i64 N1, .slice co2 cn1 cc2, .slice oo2 on1 oc2] 25) = v2 := ⟨_, rfl⟩
    have KV : Below v1.heap.size v1 v2 := by rw [← hv2]; exact (Below.refl _ v1).alloc (Nat.le_refl _) _
    have B2 : v2.heap[b2]? = some (.cells #[.int .i64 P1, .int .i64 N1, .slice co2 cn1 cc2, .slice oo2 on1 oc2] 25) := by rw [← hv2, ← hb2, new_al]
    have HX1 := HX.out.keep KV
    have HX2 : Hid (PairT w v2 b b2 ⟨P1, N1, co1, cn1, cc1, oo1, on1, oc1, cs1, os1⟩ ⟨P1, N1, co2, cn1, cc2, oo2, on1, oc2, cs1, os1⟩) := Lib.hid ⟨HX1, fbox_at (HG.out.keep KV) B2 HX1.bw⟩
    have RG : Fv.Rt ⟨P1, N1, co2, cn1, cc2, oo2, on1, oc2, cs1, os1⟩ := ⟨HSR1.out.2.meas, HSR1.out.2.core, HSR1.out.2.odd, HSR1.out.2.ris, fun i => ⟨fun h j n => (HSR1.out.2.fit i).1 h j (nr_gr (F := ⟨P1, N1, co1, cn1, cc1, oo1, on1, oc1, cs1, os1⟩) (G := ⟨P1, N1, co2, cn1, cc2, oo2, on1, oc2, cs1, os1⟩) (fun _ => rfl) n), fun h j n => (HSR1.out.2.fit i).2 h j (nr_gr (F := ⟨P1, N1, co1, cn1, cc1, oo1, on1, oc1, cs1, os1⟩) (G := ⟨P1, N1, co2, cn1, cc2, oo2, on1, oc2, cs1, os1⟩) (fun _ => rfl) n)⟩⟩
    have SG : Fv.Small ⟨P1, N1, co2, cn1, cc2, oo2, on1, oc2, cs1, os1⟩ := HSR1.out.1
    have HRG := Lib.hid RG
    have HSG := Lib.hid SG
    have D4 : Hid (∀ W, Fv.At ⟨P1, N1, co2, cn1, cc2, oo2, on1, oc2, cs1, os1⟩ W → Calls Try.prog 11 #[.agg #[.int .i64 P1, .int .i64 N1, .slice co2 cn1 cc2, .slice oo2 on1 oc2]] W fun e w' => ∃ p n c l k o m j g s, e = .returned (.agg #[.int .i64 p, .int .i64 n, .slice c l k, .slice o m j]) ∧ Hid (IsCan ⟨P1, N1, co1, cn1, cc1, oo1, on1, oc1, cs1, os1⟩ ⟨p, n, c, l, k, o, m, j, g, s⟩ ∧ Fv.Own ⟨p, n, c, l, k, o, m, j, g, s⟩ w' W.heap.size) ∧ Hid (Below W.heap.size W w')) := Lib.hid (fun W h => (form_ok ⟨P1, N1, co2, cn1, cc2, oo2, on1, oc2, cs1, os1⟩ SG.mid RG W h).mono (by rintro e w' ⟨⟨p, n, c, l, k, o, m, j, g, s⟩, rfl, hc, ho, q⟩; exact ⟨p, n, c, l, k, o, m, j, g, s, rfl, Lib.hid ⟨⟨hc.turn, hc.N, hc.P, hc.cs, hc.os⟩, ho⟩, Lib.hid q⟩))
    have D5 : Hid (∀ W, Fv.At ⟨P1, N1, co1, cn1, cc1, oo1, on1, oc1, cs1, os1⟩ W → Calls Try.prog 12 #[.agg #[.int .i64 P1, .int .i64 N1, .slice co1 cn1 cc1, .slice oo1 on1 oc1]] W fun e w' => ∃ p n c l k o m j g s, e = .returned (.agg #[.int .i64 p, .int .i64 n, .slice c l k, .slice o m j]) ∧ Hid (IsCan ⟨P1, N1, co1, cn1, cc1, oo1, on1, oc1, cs1, os1⟩ ⟨p, n, c, l, k, o, m, j, g, s⟩ ∧ Fv.Own ⟨p, n, c, l, k, o, m, j, g, s⟩ w' W.heap.size) ∧ Hid (Below W.heap.size W w')) := Lib.hid (fun W h => (ref_ok ⟨P1, N1, co1, cn1, cc1, oo1, on1, oc1, cs1, os1⟩ HSR1.out.1 HSR1.out.2 W h).mono (by rintro e w' ⟨⟨p, n, c, l, k, o, m, j, g, s⟩, rfl, hc, ho, q⟩; exact ⟨p, n, c, l, k, o, m, j, g, s, rfl, Lib.hid ⟨hc, ho⟩, Lib.hid q⟩))
    clear RG SG
    go_upto_region 4 with fail
    clear hv2 hb2 HX KV B2 HX1 HG
    go_cut [4, 5] from 12 to 15 (fun s4 s5 wx => ∃ (b4 b5 : Nat), s4 = .pointer (some ⟨b4, 0, none⟩) ∧ s5 = .pointer (some ⟨b5, 0, none⟩) ∧ Hid (∃ Gc Gd : Fv, IsCan ⟨P1, N1, co1, cn1, cc1, oo1, on1, oc1, cs1, os1⟩ Gc ∧ IsCan ⟨P1, N1, co1, cn1, cc1, oo1, on1, oc1, cs1, os1⟩ Gd ∧ Quad w wx b b2 b4 b5 ⟨P1, N1, co1, cn1, cc1, oo1, on1, oc1, cs1, os1⟩ ⟨P1, N1, co2, cn1, cc2, oo2, on1, oc2, cs1, os1⟩ Gc Gd))
    case first =>
      have HZ0 : Hid (w.heap.size ≤ v2.heap.size) := Lib.hid HX2.out.a.bw.size
      have HKS : Hid (∀ W, Below v2.heap.size v2 W → W.cell? ⟨b, 0, none⟩ = some (.int .i64 P1) ∧ W.cell? ⟨b, 1, none⟩ = some (.int .i64 N1) ∧ W.cell? ⟨b, 2, none⟩ = some (.slice co1 cn1 cc1) ∧ W.cell? ⟨b, 3, none⟩ = some (.slice oo1 on1 oc1) ∧ W.cell? ⟨b2, 0, none⟩ = some (.int .i64 P1) ∧ W.cell? ⟨b2, 1, none⟩ = some (.int .i64 N1) ∧ W.cell? ⟨b2, 2, none⟩ = some (.slice co2 cn1 cc2) ∧ W.cell? ⟨b2, 3, none⟩ = some (.slice oo2 on1 oc2)) := Lib.hid (fun W k => have p := HX2.out.keep k; ⟨p.a.c0, p.a.c1, p.a.c2, p.a.c3, p.b.c0, p.b.c1, p.b.c2, p.b.c3⟩)
      have KC := (Below.refl v2.heap.size v2).drew
      refine wp_region_held_drew (S := (fun W => W.cell? ⟨b, 0, none⟩ = some (.int .i64 P1) ∧ W.cell? ⟨b, 1, none⟩ = some (.int .i64 N1) ∧ W.cell? ⟨b, 2, none⟩ = some (.slice co1 cn1 cc1) ∧ W.cell? ⟨b, 3, none⟩ = some (.slice oo1 on1 oc1) ∧ W.cell? ⟨b2, 0, none⟩ = some (.int .i64 P1) ∧ W.cell? ⟨b2, 1, none⟩ = some (.int .i64 N1) ∧ W.cell? ⟨b2, 2, none⟩ = some (.slice co2 cn1 cc2) ∧ W.cell? ⟨b2, 3, none⟩ = some (.slice oo2 on1 oc2))) (by kernel_rfl) ?_ (fun hHeld => ?_)
      · exact HKS.out _ KC
      generalize hv3 : v2.drew = v3 at hHeld KC ⊢
      clear hv3
      have HV3 := Lib.hid KC
      refine wpAnyH_take (i := 0) (oi := _) (v := ?_) rfl (by kernel_rfl) (by kernel_rfl) (by kernel_rfl) (fun _ _ _ h => h) (Or.inl ⟨by kernel_rfl, ?_⟩) (by assumption) ?_
      rotate_left 1
      focus (intro wq hSw; (try dsimp only at hSw); obtain ⟨s0, s1, s2, s3, s4, s5, s6, s7⟩ := hSw; go_simp; (try with_reducible rfl); done)
      try simp only [List.getElem_toArray, List.getElem_cons_zero, List.getElem_cons_succ, Act.put, List.setIfInBounds_toArray, List.set_cons_zero, List.set_cons_succ]
      refine wpAnyH_take (i := 2) (oi := _) (v := ?_) rfl (by kernel_rfl) (by kernel_rfl) (by kernel_rfl) (fun _ _ _ h => h) (Or.inl ⟨by kernel_rfl, ?_⟩) (by assumption) ?_
      rotate_left 1
      focus (intro wq hSw; (try dsimp only at hSw); obtain ⟨s0, s1, s2, s3, s4, s5, s6, s7⟩ := hSw; go_simp; (try with_reducible rfl); done)
      try simp only [List.getElem_toArray, List.getElem_cons_zero, List.getElem_cons_succ, Act.put, List.setIfInBounds_toArray, List.set_cons_zero, List.set_cons_succ]
      refine wpAnyH_ready (rs := [1, 4, 5]) (by kernel_rfl) (by simp) ?_
      refine AllReadyH.cons (o := _) rfl (fun K hK => ?_) (AllReadyH.cons (o := _) rfl (fun K hK => ?_) (AllReadyH.cons (o := _) rfl (fun K hK => ?_) AllReadyH.nil))
      · rw [if_pos (by kernel_rfl)]
        go_simp
        (go_at_call 11; (with_reducible refine (D4.out _ (HX2.out.keep KC).b.at_).mono ?_); rintro e z4 ⟨P4, N4, co4, cn4, cc4, oo4, on4, oc4, cs4, os4, rfl, HC4, q⟩)
        have HN4 : Hid (v3.heap.size ≤ z4.heap.size) := Lib.hid q.out.size
        have Q0 := Lib.hid (q.out)
        have KC := KC.trans (q.out.mono KC.size)
        clear q
        first | refine hK.out _ _ ?_ (fun hHeld => ?_) | (go_wp2_with fail; refine hK.out _ _ ?_ (fun hHeld => ?_))
        · exact HKS.out _ KC
        clear hK K
        try simp only [List.getElem_toArray, List.getElem_cons_zero, List.getElem_cons_succ, Act.put, List.setIfInBounds_toArray, List.set_cons_zero, List.set_cons_succ]
        refine wpAnyH_ready (rs := [3, 4, 5]) (by kernel_rfl) (by simp) ?_
        refine AllReadyH.cons (o := _) rfl (fun K hK => ?_) (AllReadyH.cons (o := _) rfl (fun K hK => ?_) (AllReadyH.cons (o := _) rfl (fun K hK => ?_) AllReadyH.nil))
        · rw [if_pos (by kernel_rfl)]
          go_simp
          (go_at_call 12; (with_reducible refine (D5.out _ (HX2.out.keep KC).a.at_).mono ?_); rintro e z5 ⟨P5, N5, co5, cn5, cc5, oo5, on5, oc5, cs5, os5, rfl, HC5, q⟩)
          have HN5 : Hid (z4.heap.size ≤ z5.heap.size) := Lib.hid q.out.size
          have Q1 := Lib.hid (q.out)
          have KC := KC.trans (q.out.mono KC.size)
          clear q
          first | refine hK.out _ _ ?_ (fun hHeld => ?_) | (go_wp2_with fail; refine hK.out _ _ ?_ (fun hHeld => ?_))
          · exact HKS.out _ KC
          clear hK K
          try simp only [List.getElem_toArray, List.getElem_cons_zero, List.getElem_cons_succ, Act.put, List.setIfInBounds_toArray, List.set_cons_zero, List.set_cons_succ]
          refine wpAnyH_ready (rs := [4, 5]) (by kernel_rfl) (by simp) ?_
          refine AllReadyH.cons (o := _) rfl (fun K hK => ?_) (AllReadyH.cons (o := _) rfl (fun K hK => ?_) AllReadyH.nil)
          · rw [if_pos (by kernel_rfl)]
            go_simp
            obtain ⟨y4, hz⟩ : ∃ z, z5.alloc (.cells #[.int .i64 0, .int .i64 0, .slice none 0 0, .slice none 0 0] 25) = z := ⟨_, rfl⟩
            obtain ⟨b4, hbb⟩ : ∃ q, z5.heap.size = q := ⟨_, rfl⟩
            have HB4 : Hid (z5.heap.size = b4 ∧ y4.heap.size = b4 + 1 ∧ y4.heap[b4]? = some (.cells #[.int .i64 0, .int .i64 0, .slice none 0 0, .slice none 0 0] 25 (0, 0))) := Lib.hid ⟨hbb, by rw [← hz, ← hbb]; simp, by rw [← hz, ← hbb, new_al]⟩
            have Q2 : Hid (Below z5.heap.size z5 y4) := Lib.hid (by rw [← hz]; exact (Below.refl _ z5).alloc (Nat.le_refl _) _)
            have KC := KC.trans (Q2.out.mono KC.size)
            rw [hz, hbb]
            clear hz hbb
            first | refine hK.out _ _ ?_ (fun hHeld => ?_) | (go_wp2_with fail; refine hK.out _ _ ?_ (fun hHeld => ?_))
            · exact HKS.out _ KC
            clear hK K
            try simp only [List.getElem_toArray, List.getElem_cons_zero, List.getElem_cons_succ, Act.put, List.setIfInBounds_toArray, List.set_cons_zero, List.set_cons_succ]
            refine wpAnyH_ready (rs := [5]) (by kernel_rfl) (by simp) ?_
            refine AllReadyH.cons (o := _) rfl (fun K hK => ?_) AllReadyH.nil
            rw [if_pos (by kernel_rfl)]
            go_simp
            obtain ⟨y5, hz⟩ : ∃ z, y4.alloc (.cells #[.int .i64 0, .int .i64 0, .slice none 0 0, .slice none 0 0] 25) = z := ⟨_, rfl⟩
            obtain ⟨b5, hbb⟩ : ∃ q, y4.heap.size = q := ⟨_, rfl⟩
            have HB5 : Hid (y4.heap.size = b5 ∧ y5.heap.size = b5 + 1 ∧ y5.heap[b5]? = some (.cells #[.int .i64 0, .int .i64 0, .slice none 0 0, .slice none 0 0] 25 (0, 0))) := Lib.hid ⟨hbb, by rw [← hz, ← hbb]; simp, by rw [← hz, ← hbb, new_al]⟩
            have Q3 : Hid (Below y4.heap.size y4 y5) := Lib.hid (by rw [← hz]; exact (Below.refl _ y4).alloc (Nat.le_refl _) _)
            have KC := KC.trans (Q3.out.mono KC.size)
            rw [hz, hbb]
            clear hz hbb
            first | refine hK.out _ _ ?_ (fun hHeld => ?_) | (go_wp2_with fail; refine hK.out _ _ ?_ (fun hHeld => ?_))
            · exact HKS.out _ KC
            clear hK K
            try simp only [List.getElem_toArray, List.getElem_cons_zero, List.getElem_cons_succ, Act.put, List.setIfInBounds_toArray, List.set_cons_zero, List.set_cons_succ]
            have hb4 := HB4.out
            have hb5 := HB5.out
            have n0 : v3.heap.size ≤ z4.heap.size := Q0.out.size
            have n1 : z4.heap.size ≤ z5.heap.size := Q1.out.size
            have hne : b4 ≠ b5 := by omega
            have hl4 : v2.heap.size ≤ b4 := by have := HV3.out.size; omega
            have hl5 : v2.heap.size ≤ b5 := by have := HV3.out.size; omega
            have h4 : y5.heap[b4]? = some (.cells #[.int .i64 0, .int .i64 0, .slice none 0 0, .slice none 0 0] 25 (0, 0)) := (Q3.out.block b4 (by omega)).trans (hb4.2.2)
            have h5 : y5.heap[b5]? = some (.cells #[.int .i64 0, .int .i64 0, .slice none 0 0, .slice none 0 0] 25 (0, 0)) := hb5.2.2
            have e4 : ∀ q, q < z4.heap.size → y5.heap[q]? = z4.heap[q]? := fun q hq => (Q3.out.block q (by omega)).trans ((Q2.out.block q (by omega)).trans ((Q1.out.block q (by omega)).trans (rfl)))
            have s4 : z4.heap.size ≤ y5.heap.size := by omega
            have e5 : ∀ q, q < z5.heap.size → y5.heap[q]? = z5.heap[q]? := fun q hq => (Q3.out.block q (by omega)).trans ((Q2.out.block q (by omega)).trans (rfl))
            have s5 : z5.heap.size ≤ y5.heap.size := by omega
            have HF2 := Lib.hid (HX2.out)
            have HEND : Hid (∀ wE : World, wE = (((((((y5.setCell ⟨b4, 0, none⟩ (.int .i64 P4)).setCell ⟨b4, 1, none⟩ (.int .i64 N4)).setCell ⟨b4, 2, none⟩ (.slice co4 cn4 cc4)).setCell ⟨b4, 3, none⟩ (.slice oo4 on4 oc4)).setCell ⟨b5, 0, none⟩ (.int .i64 P5)).setCell ⟨b5, 1, none⟩ (.int .i64 N5)).setCell ⟨b5, 2, none⟩ (.slice co5 cn5 cc5)).setCell ⟨b5, 3, none⟩ (.slice oo5 on5 oc5) → ∃ Gc Gd : Fv, IsCan ⟨P1, N1, co1, cn1, cc1, oo1, on1, oc1, cs1, os1⟩ Gc ∧ IsCan ⟨P1, N1, co1, cn1, cc1, oo1, on1, oc1, cs1, os1⟩ Gd ∧ Quad w wE b b2 b4 b5 ⟨P1, N1, co1, cn1, cc1, oo1, on1, oc1, cs1, os1⟩ ⟨P1, N1, co2, cn1, cc2, oo2, on1, oc2, cs1, os1⟩ Gc Gd) := Lib.hid (fun wE hE => by
            obtain ⟨t1, t2, t3, t4⟩ := two_end h4 h5 hne hE
            have bE := KC.trans (t4 _ hl4 hl5 KC.size)
            have p := HF2.out.keep bE
            refine ⟨⟨P4, N4, co4, cn4, cc4, oo4, on4, oc4, cs4, os4⟩, ⟨P5, N5, co5, cn5, cc5, oo5, on5, oc5, cs5, os5⟩, HC4.out.1, HC5.out.1, p.a, p.b, fbox_at (ownF_between HC4.out.2 (fun q q1 q2 => (t3 q (by omega) (by omega) (by omega)).trans (e4 q q2))).at_ t1 p.a.bw, fbox_at (ownF_between HC5.out.2 (fun q q1 q2 => (t3 q (by omega) (by omega) (by omega)).trans (e5 q q2))).at_ t2 p.a.bw⟩)
            have f40 := block_free h4 0
            have f41 := block_free h4 1
            have f42 := block_free h4 2
            have f43 := block_free h4 3
            have f50 := block_free h5 0
            have f51 := block_free h5 1
            have f52 := block_free h5 2
            have f53 := block_free h5 3
            have g40 := cell_block h4 0
            have g41 := cell_block h4 1
            have g42 := cell_block h4 2
            have g43 := cell_block h4 3
            have g50 := cell_block h5 0
            have g51 := cell_block h5 1
            have g52 := cell_block h5 2
            have g53 := cell_block h5 3
            have hne2 : b5 ≠ b4 := fun z => hne z.symm
            have HKA := Lib.hid (KC.grown (grown_four y5 b4 (.int .i64 P4) (.int .i64 N4) (.slice co4 cn4 cc4) (.slice oo4 on4 oc4)) KC.size (fun q z => by cases z; exact hl4))
            have HKB := Lib.hid (HKA.out.grown (grown_four (((((y5).setCell ⟨b4, 0, none⟩ (.int .i64 P4)).setCell ⟨b4, 1, none⟩ (.int .i64 N4)).setCell ⟨b4, 2, none⟩ (.slice co4 cn4 cc4)).setCell ⟨b4, 3, none⟩ (.slice oo4 on4 oc4)) b5 (.int .i64 P5) (.int .i64 N5) (.slice co5 cn5 cc5) (.slice oo5 on5 oc5)) HKA.out.size (fun q z => by cases z; exact hl5))
            clear hb4 hb5 h4 h5 e4 e5 s4 s5 hl4 hl5 n0 n1
            refine wpAnyH_ready (rs := [6]) (by kernel_rfl) (by simp) ?_
            refine AllReadyH.cons (o := _) rfl (fun K hK => ?_) AllReadyH.nil
            rw [if_pos (by kernel_rfl)]
            go_simp
            first | refine hK.out _ _ ?_ (fun hHeld => ?_) | (go_wp2_with fail; refine hK.out _ _ ?_ (fun hHeld => ?_))
            · exact HKS.out _ HKA.out
            clear hK K
            try simp only [List.getElem_toArray, List.getElem_cons_zero, List.getElem_cons_succ, Act.put, List.setIfInBounds_toArray, List.set_cons_zero, List.set_cons_succ]
            refine wpAnyH_ready (rs := [7]) (by kernel_rfl) (by simp) ?_
            refine AllReadyH.cons (o := _) rfl (fun K hK => ?_) AllReadyH.nil
            rw [if_pos (by kernel_rfl)]
            go_simp
            first | refine hK.out _ _ ?_ (fun hHeld => ?_) | (go_wp2_with fail; refine hK.out _ _ ?_ (fun hHeld => ?_))
            · exact HKS.out _ HKB.out
            clear hK K
            try simp only [List.getElem_toArray, List.getElem_cons_zero, List.getElem_cons_succ, Act.put, List.setIfInBounds_toArray, List.set_cons_zero, List.set_cons_succ]
            refine wpAnyH_done (by kernel_rfl) ?_ _
            clear f40 f41 f42 f43 f50 f51 f52 f53 g40 g41 g42 g43 g50 g51 g52 g53 hHeld HKA HKB KC hne hne2
            go_wp2_with fail
            go_meet
            case rel => exact ⟨b4, b5, rfl, rfl, Lib.hid (HEND.out _ rfl)⟩
          · rw [if_pos (by kernel_rfl)]
            go_simp
            obtain ⟨y5, hz⟩ : ∃ z, z5.alloc (.cells #[.int .i64 0, .int .i64 0, .slice none 0 0, .slice none 0 0] 25) = z := ⟨_, rfl⟩
            obtain ⟨b5, hbb⟩ : ∃ q, z5.heap.size = q := ⟨_, rfl⟩
            have HB5 : Hid (z5.heap.size = b5 ∧ y5.heap.size = b5 + 1 ∧ y5.heap[b5]? = some (.cells #[.int .i64 0, .int .i64 0, .slice none 0 0, .slice none 0 0] 25 (0, 0))) := Lib.hid ⟨hbb, by rw [← hz, ← hbb]; simp, by rw [← hz, ← hbb, new_al]⟩
            have Q2 : Hid (Below z5.heap.size z5 y5) := Lib.hid (by rw [← hz]; exact (Below.refl _ z5).alloc (Nat.le_refl _) _)
            have KC := KC.trans (Q2.out.mono KC.size)
            rw [hz, hbb]
            clear hz hbb
            first | refine hK.out _ _ ?_ (fun hHeld => ?_) | (go_wp2_with fail; refine hK.out _ _ ?_ (fun hHeld => ?_))
            · exact HKS.out _ KC
            clear hK K
            try simp only [List.getElem_toArray, List.getElem_cons_zero, List.getElem_cons_succ, Act.put, List.setIfInBounds_toArray, List.set_cons_zero, List.set_cons_succ]
            refine wpAnyH_ready (rs := [4]) (by kernel_rfl) (by simp) ?_
            refine AllReadyH.cons (o := _) rfl (fun K hK => ?_) AllReadyH.nil
            rw [if_pos (by kernel_rfl)]
            go_simp
            obtain ⟨y4, hz⟩ : ∃ z, y5.alloc (.cells #[.int .i64 0, .int .i64 0, .slice none 0 0, .slice none 0 0] 25) = z := ⟨_, rfl⟩
            obtain ⟨b4, hbb⟩ : ∃ q, y5.heap.size = q := ⟨_, rfl⟩
            have HB4 : Hid (y5.heap.size = b4 ∧ y4.heap.size = b4 + 1 ∧ y4.heap[b4]? = some (.cells #[.int .i64 0, .int .i64 0, .slice none 0 0, .slice none 0 0] 25 (0, 0))) := Lib.hid ⟨hbb, by rw [← hz, ← hbb]; simp, by rw [← hz, ← hbb, new_al]⟩
            have Q3 : Hid (Below y5.heap.size y5 y4) := Lib.hid (by rw [← hz]; exact (Below.refl _ y5).alloc (Nat.le_refl _) _)
            have KC := KC.trans (Q3.out.mono KC.size)
            rw [hz, hbb]
            clear hz hbb
            first | refine hK.out _ _ ?_ (fun hHeld => ?_) | (go_wp2_with fail; refine hK.out _ _ ?_ (fun hHeld => ?_))
            · exact HKS.out _ KC
            clear hK K
            try simp only [List.getElem_toArray, List.getElem_cons_zero, List.getElem_cons_succ, Act.put, List.setIfInBounds_toArray, List.set_cons_zero, List.set_cons_succ]
            have hb4 := HB4.out
            have hb5 := HB5.out
            have n0 : v3.heap.size ≤ z4.heap.size := Q0.out.size
            have n1 : z4.heap.size ≤ z5.heap.size := Q1.out.size
            have hne : b4 ≠ b5 := by omega
            have hl4 : v2.heap.size ≤ b4 := by have := HV3.out.size; omega
            have hl5 : v2.heap.size ≤ b5 := by have := HV3.out.size; omega
            have h4 : y4.heap[b4]? = some (.cells #[.int .i64 0, .int .i64 0, .slice none 0 0, .slice none 0 0] 25 (0, 0)) := hb4.2.2
            have h5 : y4.heap[b5]? = some (.cells #[.int .i64 0, .int .i64 0, .slice none 0 0, .slice none 0 0] 25 (0, 0)) := (Q3.out.block b5 (by omega)).trans (hb5.2.2)
            have e4 : ∀ q, q < z4.heap.size → y4.heap[q]? = z4.heap[q]? := fun q hq => (Q3.out.block q (by omega)).trans ((Q2.out.block q (by omega)).trans ((Q1.out.block q (by omega)).trans (rfl)))
            have s4 : z4.heap.size ≤ y4.heap.size := by omega
            have e5 : ∀ q, q < z5.heap.size → y4.heap[q]? = z5.heap[q]? := fun q hq => (Q3.out.block q (by omega)).trans ((Q2.out.block q (by omega)).trans (rfl))
            have s5 : z5.heap.size ≤ y4.heap.size := by omega
            have HF2 := Lib.hid (HX2.out)
            have HEND : Hid (∀ wE : World, wE = (((((((y4.setCell ⟨b4, 0, none⟩ (.int .i64 P4)).setCell ⟨b4, 1, none⟩ (.int .i64 N4)).setCell ⟨b4, 2, none⟩ (.slice co4 cn4 cc4)).setCell ⟨b4, 3, none⟩ (.slice oo4 on4 oc4)).setCell ⟨b5, 0, none⟩ (.int .i64 P5)).setCell ⟨b5, 1, none⟩ (.int .i64 N5)).setCell ⟨b5, 2, none⟩ (.slice co5 cn5 cc5)).setCell ⟨b5, 3, none⟩ (.slice oo5 on5 oc5) → ∃ Gc Gd : Fv, IsCan ⟨P1, N1, co1, cn1, cc1, oo1, on1, oc1, cs1, os1⟩ Gc ∧ IsCan ⟨P1, N1, co1, cn1, cc1, oo1, on1, oc1, cs1, os1⟩ Gd ∧ Quad w wE b b2 b4 b5 ⟨P1, N1, co1, cn1, cc1, oo1, on1, oc1, cs1, os1⟩ ⟨P1, N1, co2, cn1, cc2, oo2, on1, oc2, cs1, os1⟩ Gc Gd) := Lib.hid (fun wE hE => by
            obtain ⟨t1, t2, t3, t4⟩ := two_end h4 h5 hne hE
            have bE := KC.trans (t4 _ hl4 hl5 KC.size)
            have p := HF2.out.keep bE
            refine ⟨⟨P4, N4, co4, cn4, cc4, oo4, on4, oc4, cs4, os4⟩, ⟨P5, N5, co5, cn5, cc5, oo5, on5, oc5, cs5, os5⟩, HC4.out.1, HC5.out.1, p.a, p.b, fbox_at (ownF_between HC4.out.2 (fun q q1 q2 => (t3 q (by omega) (by omega) (by omega)).trans (e4 q q2))).at_ t1 p.a.bw, fbox_at (ownF_between HC5.out.2 (fun q q1 q2 => (t3 q (by omega) (by omega) (by omega)).trans (e5 q q2))).at_ t2 p.a.bw⟩)
            have f40 := block_free h4 0
            have f41 := block_free h4 1
            have f42 := block_free h4 2
            have f43 := block_free h4 3
            have f50 := block_free h5 0
            have f51 := block_free h5 1
            have f52 := block_free h5 2
            have f53 := block_free h5 3
            have g40 := cell_block h4 0
            have g41 := cell_block h4 1
            have g42 := cell_block h4 2
            have g43 := cell_block h4 3
            have g50 := cell_block h5 0
            have g51 := cell_block h5 1
            have g52 := cell_block h5 2
            have g53 := cell_block h5 3
            have hne2 : b5 ≠ b4 := fun z => hne z.symm
            have HKA := Lib.hid (KC.grown (grown_four y4 b4 (.int .i64 P4) (.int .i64 N4) (.slice co4 cn4 cc4) (.slice oo4 on4 oc4)) KC.size (fun q z => by cases z; exact hl4))
            have HKB := Lib.hid (HKA.out.grown (grown_four (((((y4).setCell ⟨b4, 0, none⟩ (.int .i64 P4)).setCell ⟨b4, 1, none⟩ (.int .i64 N4)).setCell ⟨b4, 2, none⟩ (.slice co4 cn4 cc4)).setCell ⟨b4, 3, none⟩ (.slice oo4 on4 oc4)) b5 (.int .i64 P5) (.int .i64 N5) (.slice co5 cn5 cc5) (.slice oo5 on5 oc5)) HKA.out.size (fun q z => by cases z; exact hl5))
            clear hb4 hb5 h4 h5 e4 e5 s4 s5 hl4 hl5 n0 n1
            refine wpAnyH_ready (rs := [6]) (by kernel_rfl) (by simp) ?_
            refine AllReadyH.cons (o := _) rfl (fun K hK => ?_) AllReadyH.nil
            rw [if_pos (by kernel_rfl)]
            go_simp
            first | refine hK.out _ _ ?_ (fun hHeld => ?_) | (go_wp2_with fail; refine hK.out _ _ ?_ (fun hHeld => ?_))
            · exact HKS.out _ HKA.out
            clear hK K
            try simp only [List.getElem_toArray, List.getElem_cons_zero, List.getElem_cons_succ, Act.put, List.setIfInBounds_toArray, List.set_cons_zero, List.set_cons_succ]
            refine wpAnyH_ready (rs := [7]) (by kernel_rfl) (by simp) ?_
            refine AllReadyH.cons (o := _) rfl (fun K hK => ?_) AllReadyH.nil
            rw [if_pos (by kernel_rfl)]
            go_simp
            first | refine hK.out _ _ ?_ (fun hHeld => ?_) | (go_wp2_with fail; refine hK.out _ _ ?_ (fun hHeld => ?_))
            · exact HKS.out _ HKB.out
            clear hK K
            try simp only [List.getElem_toArray, List.getElem_cons_zero, List.getElem_cons_succ, Act.put, List.setIfInBounds_toArray, List.set_cons_zero, List.set_cons_succ]
            refine wpAnyH_done (by kernel_rfl) ?_ _
            clear f40 f41 f42 f43 f50 f51 f52 f53 g40 g41 g42 g43 g50 g51 g52 g53 hHeld HKA HKB KC hne hne2
            go_wp2_with fail
            go_meet
            case rel => exact ⟨b4, b5, rfl, rfl, Lib.hid (HEND.out _ rfl)⟩
        · rw [if_pos (by kernel_rfl)]
          go_simp
          obtain ⟨y4, hz⟩ : ∃ z, z4.alloc (.cells #[.int .i64 0, .int .i64 0, .slice none 0 0, .slice none 0 0] 25) = z := ⟨_, rfl⟩
          obtain ⟨b4, hbb⟩ : ∃ q, z4.heap.size = q := ⟨_, rfl⟩
          have HB4 : Hid (z4.heap.size = b4 ∧ y4.heap.size = b4 + 1 ∧ y4.heap[b4]? = some (.cells #[.int .i64 0, .int .i64 0, .slice none 0 0, .slice none 0 0] 25 (0, 0))) := Lib.hid ⟨hbb, by rw [← hz, ← hbb]; simp, by rw [← hz, ← hbb, new_al]⟩
          have Q1 : Hid (Below z4.heap.size z4 y4) := Lib.hid (by rw [← hz]; exact (Below.refl _ z4).alloc (Nat.le_refl _) _)
          have KC := KC.trans (Q1.out.mono KC.size)
          rw [hz, hbb]
          clear hz hbb
          first | refine hK.out _ _ ?_ (fun hHeld => ?_) | (go_wp2_with fail; refine hK.out _ _ ?_ (fun hHeld => ?_))
          · exact HKS.out _ KC
          clear hK K
          try simp only [List.getElem_toArray, List.getElem_cons_zero, List.getElem_cons_succ, Act.put, List.setIfInBounds_toArray, List.set_cons_zero, List.set_cons_succ]
          refine wpAnyH_ready (rs := [3, 5]) (by kernel_rfl) (by simp) ?_
          refine AllReadyH.cons (o := _) rfl (fun K hK => ?_) (AllReadyH.cons (o := _) rfl (fun K hK => ?_) AllReadyH.nil)
          · rw [if_pos (by kernel_rfl)]
            go_simp
            (go_at_call 12; (with_reducible refine (D5.out _ (HX2.out.keep KC).a.at_).mono ?_); rintro e z5 ⟨P5, N5, co5, cn5, cc5, oo5, on5, oc5, cs5, os5, rfl, HC5, q⟩)
            have HN5 : Hid (y4.heap.size ≤ z5.heap.size) := Lib.hid q.out.size
            have Q2 := Lib.hid (q.out)
            have KC := KC.trans (q.out.mono KC.size)
            clear q
            first | refine hK.out _ _ ?_ (fun hHeld => ?_) | (go_wp2_with fail; refine hK.out _ _ ?_ (fun hHeld => ?_))
            · exact HKS.out _ KC
            clear hK K
            try simp only [List.getElem_toArray, List.getElem_cons_zero, List.getElem_cons_succ, Act.put, List.setIfInBounds_toArray, List.set_cons_zero, List.set_cons_succ]
            refine wpAnyH_ready (rs := [5]) (by kernel_rfl) (by simp) ?_
            refine AllReadyH.cons (o := _) rfl (fun K hK => ?_) AllReadyH.nil
            rw [if_pos (by kernel_rfl)]
            go_simp
            obtain ⟨y5, hz⟩ : ∃ z, z5.alloc (.cells #[.int .i64 0, .int .i64 0, .slice none 0 0, .slice none 0 0] 25) = z := ⟨_, rfl⟩
            obtain ⟨b5, hbb⟩ : ∃ q, z5.heap.size = q := ⟨_, rfl⟩
            have HB5 : Hid (z5.heap.size = b5 ∧ y5.heap.size = b5 + 1 ∧ y5.heap[b5]? = some (.cells #[.int .i64 0, .int .i64 0, .slice none 0 0, .slice none 0 0] 25 (0, 0))) := Lib.hid ⟨hbb, by rw [← hz, ← hbb]; simp, by rw [← hz, ← hbb, new_al]⟩
            have Q3 : Hid (Below z5.heap.size z5 y5) := Lib.hid (by rw [← hz]; exact (Below.refl _ z5).alloc (Nat.le_refl _) _)
            have KC := KC.trans (Q3.out.mono KC.size)
            rw [hz, hbb]
            clear hz hbb
            first | refine hK.out _ _ ?_ (fun hHeld => ?_) | (go_wp2_with fail; refine hK.out _ _ ?_ (fun hHeld => ?_))
            · exact HKS.out _ KC
            clear hK K
            try simp only [List.getElem_toArray, List.getElem_cons_zero, List.getElem_cons_succ, Act.put, List.setIfInBounds_toArray, List.set_cons_zero, List.set_cons_succ]
            have hb4 := HB4.out
            have hb5 := HB5.out
            have n0 : v3.heap.size ≤ z4.heap.size := Q0.out.size
            have n2 : y4.heap.size ≤ z5.heap.size := Q2.out.size
            have hne : b4 ≠ b5 := by omega
            have hl4 : v2.heap.size ≤ b4 := by have := HV3.out.size; omega
            have hl5 : v2.heap.size ≤ b5 := by have := HV3.out.size; omega
            have h4 : y5.heap[b4]? = some (.cells #[.int .i64 0, .int .i64 0, .slice none 0 0, .slice none 0 0] 25 (0, 0)) := (Q3.out.block b4 (by omega)).trans ((Q2.out.block b4 (by omega)).trans (hb4.2.2))
            have h5 : y5.heap[b5]? = some (.cells #[.int .i64 0, .int .i64 0, .slice none 0 0, .slice none 0 0] 25 (0, 0)) := hb5.2.2
            have e4 : ∀ q, q < z4.heap.size → y5.heap[q]? = z4.heap[q]? := fun q hq => (Q3.out.block q (by omega)).trans ((Q2.out.block q (by omega)).trans ((Q1.out.block q (by omega)).trans (rfl)))
            have s4 : z4.heap.size ≤ y5.heap.size := by omega
            have e5 : ∀ q, q < z5.heap.size → y5.heap[q]? = z5.heap[q]? := fun q hq => (Q3.out.block q (by omega)).trans (rfl)
            have s5 : z5.heap.size ≤ y5.heap.size := by omega
            have HF2 := Lib.hid (HX2.out)
            have HEND : Hid (∀ wE : World, wE = (((((((y5.setCell ⟨b4, 0, none⟩ (.int .i64 P4)).setCell ⟨b4, 1, none⟩ (.int .i64 N4)).setCell ⟨b4, 2, none⟩ (.slice co4 cn4 cc4)).setCell ⟨b4, 3, none⟩ (.slice oo4 on4 oc4)).setCell ⟨b5, 0, none⟩ (.int .i64 P5)).setCell ⟨b5, 1, none⟩ (.int .i64 N5)).setCell ⟨b5, 2, none⟩ (.slice co5 cn5 cc5)).setCell ⟨b5, 3, none⟩ (.slice oo5 on5 oc5) → ∃ Gc Gd : Fv, IsCan ⟨P1, N1, co1, cn1, cc1, oo1, on1, oc1, cs1, os1⟩ Gc ∧ IsCan ⟨P1, N1, co1, cn1, cc1, oo1, on1, oc1, cs1, os1⟩ Gd ∧ Quad w wE b b2 b4 b5 ⟨P1, N1, co1, cn1, cc1, oo1, on1, oc1, cs1, os1⟩ ⟨P1, N1, co2, cn1, cc2, oo2, on1, oc2, cs1, os1⟩ Gc Gd) := Lib.hid (fun wE hE => by
            obtain ⟨t1, t2, t3, t4⟩ := two_end h4 h5 hne hE
            have bE := KC.trans (t4 _ hl4 hl5 KC.size)
            have p := HF2.out.keep bE
            refine ⟨⟨P4, N4, co4, cn4, cc4, oo4, on4, oc4, cs4, os4⟩, ⟨P5, N5, co5, cn5, cc5, oo5, on5, oc5, cs5, os5⟩, HC4.out.1, HC5.out.1, p.a, p.b, fbox_at (ownF_between HC4.out.2 (fun q q1 q2 => (t3 q (by omega) (by omega) (by omega)).trans (e4 q q2))).at_ t1 p.a.bw, fbox_at (ownF_between HC5.out.2 (fun q q1 q2 => (t3 q (by omega) (by omega) (by omega)).trans (e5 q q2))).at_ t2 p.a.bw⟩)
            have f40 := block_free h4 0
            have f41 := block_free h4 1
            have f42 := block_free h4 2
            have f43 := block_free h4 3
            have f50 := block_free h5 0
            have f51 := block_free h5 1
            have f52 := block_free h5 2
            have f53 := block_free h5 3
            have g40 := cell_block h4 0
            have g41 := cell_block h4 1
            have g42 := cell_block h4 2
            have g43 := cell_block h4 3
            have g50 := cell_block h5 0
            have g51 := cell_block h5 1
            have g52 := cell_block h5 2
            have g53 := cell_block h5 3
            have hne2 : b5 ≠ b4 := fun z => hne z.symm
            have HKA := Lib.hid (KC.grown (grown_four y5 b4 (.int .i64 P4) (.int .i64 N4) (.slice co4 cn4 cc4) (.slice oo4 on4 oc4)) KC.size (fun q z => by cases z; exact hl4))
            have HKB := Lib.hid (HKA.out.grown (grown_four (((((y5).setCell ⟨b4, 0, none⟩ (.int .i64 P4)).setCell ⟨b4, 1, none⟩ (.int .i64 N4)).setCell ⟨b4, 2, none⟩ (.slice co4 cn4 cc4)).setCell ⟨b4, 3, none⟩ (.slice oo4 on4 oc4)) b5 (.int .i64 P5) (.int .i64 N5) (.slice co5 cn5 cc5) (.slice oo5 on5 oc5)) HKA.out.size (fun q z => by cases z; exact hl5))
            clear hb4 hb5 h4 h5 e4 e5 s4 s5 hl4 hl5 n0 n2
            refine wpAnyH_ready (rs := [6]) (by kernel_rfl) (by simp) ?_
            refine AllReadyH.cons (o := _) rfl (fun K hK => ?_) AllReadyH.nil
            rw [if_pos (by kernel_rfl)]
            go_simp
            first | refine hK.out _ _ ?_ (fun hHeld => ?_) | (go_wp2_with fail; refine hK.out _ _ ?_ (fun hHeld => ?_))
            · exact HKS.out _ HKA.out
            clear hK K
            try simp only [List.getElem_toArray, List.getElem_cons_zero, List.getElem_cons_succ, Act.put, List.setIfInBounds_toArray, List.set_cons_zero, List.set_cons_succ]
            refine wpAnyH_ready (rs := [7]) (by kernel_rfl) (by simp) ?_
            refine AllReadyH.cons (o := _) rfl (fun K hK => ?_) AllReadyH.nil
            rw [if_pos (by kernel_rfl)]
            go_simp
            first | refine hK.out _ _ ?_ (fun hHeld => ?_) | (go_wp2_with fail; refine hK.out _ _ ?_ (fun hHeld => ?_))
            · exact HKS.out _ HKB.out
            clear hK K
            try simp only [List.getElem_toArray, List.getElem_cons_zero, List.getElem_cons_succ, Act.put, List.setIfInBounds_toArray, List.set_cons_zero, List.set_cons_succ]
            refine wpAnyH_done (by kernel_rfl) ?_ _
            clear f40 f41 f42 f43 f50 f51 f52 f53 g40 g41 g42 g43 g50 g51 g52 g53 hHeld HKA HKB KC hne hne2
            go_wp2_with fail
            go_meet
            case rel => exact ⟨b4, b5, rfl, rfl, Lib.hid (HEND.out _ rfl)⟩
          · rw [if_pos (by kernel_rfl)]
            go_simp
            obtain ⟨y5, hz⟩ : ∃ z, y4.alloc (.cells #[.int .i64 0, .int .i64 0, .slice none 0 0, .slice none 0 0] 25) = z := ⟨_, rfl⟩
            obtain ⟨b5, hbb⟩ : ∃ q, y4.heap.size = q := ⟨_, rfl⟩
            have HB5 : Hid (y4.heap.size = b5 ∧ y5.heap.size = b5 + 1 ∧ y5.heap[b5]? = some (.cells #[.int .i64 0, .int .i64 0, .slice none 0 0, .slice none 0 0] 25 (0, 0))) := Lib.hid ⟨hbb, by rw [← hz, ← hbb]; simp, by rw [← hz, ← hbb, new_al]⟩
            have Q2 : Hid (Below y4.heap.size y4 y5) := Lib.hid (by rw [← hz]; exact (Below.refl _ y4).alloc (Nat.le_refl _) _)
            have KC := KC.trans (Q2.out.mono KC.size)
            rw [hz, hbb]
            clear hz hbb
            first | refine hK.out _ _ ?_ (fun hHeld => ?_) | (go_wp2_with fail; refine hK.out _ _ ?_ (fun hHeld => ?_))
            · exact HKS.out _ KC
            clear hK K
            try simp only [List.getElem_toArray, List.getElem_cons_zero, List.getElem_cons_succ, Act.put, List.setIfInBounds_toArray, List.set_cons_zero, List.set_cons_succ]
            refine wpAnyH_ready (rs := [3]) (by kernel_rfl) (by simp) ?_
            refine AllReadyH.cons (o := _) rfl (fun K hK => ?_) AllReadyH.nil
            rw [if_pos (by kernel_rfl)]
            go_simp
            (go_at_call 12; (with_reducible refine (D5.out _ (HX2.out.keep KC).a.at_).mono ?_); rintro e z5 ⟨P5, N5, co5, cn5, cc5, oo5, on5, oc5, cs5, os5, rfl, HC5, q⟩)
            have HN5 : Hid (y5.heap.size ≤ z5.heap.size) := Lib.hid q.out.size
            have Q3 := Lib.hid (q.out)
            have KC := KC.trans (q.out.mono KC.size)
            clear q
            first | refine hK.out _ _ ?_ (fun hHeld => ?_) | (go_wp2_with fail; refine hK.out _ _ ?_ (fun hHeld => ?_))
            · exact HKS.out _ KC
            clear hK K
            try simp only [List.getElem_toArray, List.getElem_cons_zero, List.getElem_cons_succ, Act.put, List.setIfInBounds_toArray, List.set_cons_zero, List.set_cons_succ]
            have hb4 := HB4.out
            have hb5 := HB5.out
            have n0 : v3.heap.size ≤ z4.heap.size := Q0.out.size
            have n3 : y5.heap.size ≤ z5.heap.size := Q3.out.size
            have hne : b4 ≠ b5 := by omega
            have hl4 : v2.heap.size ≤ b4 := by have := HV3.out.size; omega
            have hl5 : v2.heap.size ≤ b5 := by have := HV3.out.size; omega
            have h4 : z5.heap[b4]? = some (.cells #[.int .i64 0, .int .i64 0, .slice none 0 0, .slice none 0 0] 25 (0, 0)) := (Q3.out.block b4 (by omega)).trans ((Q2.out.block b4 (by omega)).trans (hb4.2.2))
            have h5 : z5.heap[b5]? = some (.cells #[.int .i64 0, .int .i64 0, .slice none 0 0, .slice none 0 0] 25 (0, 0)) := (Q3.out.block b5 (by omega)).trans (hb5.2.2)
            have e4 : ∀ q, q < z4.heap.size → z5.heap[q]? = z4.heap[q]? := fun q hq => (Q3.out.block q (by omega)).trans ((Q2.out.block q (by omega)).trans ((Q1.out.block q (by omega)).trans (rfl)))
            have s4 : z4.heap.size ≤ z5.heap.size := by omega
            have e5 : ∀ q, q < z5.heap.size → z5.heap[q]? = z5.heap[q]? := fun q hq => rfl
            have s5 : z5.heap.size ≤ z5.heap.size := by omega
            have HF2 := Lib.hid (HX2.out)
            have HEND : Hid (∀ wE : World, wE = (((((((z5.setCell ⟨b4, 0, none⟩ (.int .i64 P4)).setCell ⟨b4, 1, none⟩ (.int .i64 N4)).setCell ⟨b4, 2, none⟩ (.slice co4 cn4 cc4)).setCell ⟨b4, 3, none⟩ (.slice oo4 on4 oc4)).setCell ⟨b5, 0, none⟩ (.int .i64 P5)).setCell ⟨b5, 1, none⟩ (.int .i64 N5)).setCell ⟨b5, 2, none⟩ (.slice co5 cn5 cc5)).setCell ⟨b5, 3, none⟩ (.slice oo5 on5 oc5) → ∃ Gc Gd : Fv, IsCan ⟨P1, N1, co1, cn1, cc1, oo1, on1, oc1, cs1, os1⟩ Gc ∧ IsCan ⟨P1, N1, co1, cn1, cc1, oo1, on1, oc1, cs1, os1⟩ Gd ∧ Quad w wE b b2 b4 b5 ⟨P1, N1, co1, cn1, cc1, oo1, on1, oc1, cs1, os1⟩ ⟨P1, N1, co2, cn1, cc2, oo2, on1, oc2, cs1, os1⟩ Gc Gd) := Lib.hid (fun wE hE => by
            obtain ⟨t1, t2, t3, t4⟩ := two_end h4 h5 hne hE
            have bE := KC.trans (t4 _ hl4 hl5 KC.size)
            have p := HF2.out.keep bE
            refine ⟨⟨P4, N4, co4, cn4, cc4, oo4, on4, oc4, cs4, os4⟩, ⟨P5, N5, co5, cn5, cc5, oo5, on5, oc5, cs5, os5⟩, HC4.out.1, HC5.out.1, p.a, p.b, fbox_at (ownF_between HC4.out.2 (fun q q1 q2 => (t3 q (by omega) (by omega) (by omega)).trans (e4 q q2))).at_ t1 p.a.bw, fbox_at (ownF_between HC5.out.2 (fun q q1 q2 => (t3 q (by omega) (by omega) (by omega)).trans (e5 q q2))).at_ t2 p.a.bw⟩)
            have f40 := block_free h4 0
            have f41 := block_free h4 1
            have f42 := block_free h4 2
            have f43 := block_free h4 3
            have f50 := block_free h5 0
            have f51 := block_free h5 1
            have f52 := block_free h5 2
            have f53 := block_free h5 3
            have g40 := cell_block h4 0
            have g41 := cell_block h4 1
            have g42 := cell_block h4 2
            have g43 := cell_block h4 3
            have g50 := cell_block h5 0
            have g51 := cell_block h5 1
            have g52 := cell_block h5 2
            have g53 := cell_block h5 3
            have hne2 : b5 ≠ b4 := fun z => hne z.symm
            have HKA := Lib.hid (KC.grown (grown_four z5 b4 (.int .i64 P4) (.int .i64 N4) (.slice co4 cn4 cc4) (.slice oo4 on4 oc4)) KC.size (fun q z => by cases z; exact hl4))
            have HKB := Lib.hid (HKA.out.grown (grown_four (((((z5).setCell ⟨b4, 0, none⟩ (.int .i64 P4)).setCell ⟨b4, 1, none⟩ (.int .i64 N4)).setCell ⟨b4, 2, none⟩ (.slice co4 cn4 cc4)).setCell ⟨b4, 3, none⟩ (.slice oo4 on4 oc4)) b5 (.int .i64 P5) (.int .i64 N5) (.slice co5 cn5 cc5) (.slice oo5 on5 oc5)) HKA.out.size (fun q z => by cases z; exact hl5))
            clear hb4 hb5 h4 h5 e4 e5 s4 s5 hl4 hl5 n0 n3
            refine wpAnyH_ready (rs := [6]) (by kernel_rfl) (by simp) ?_
            refine AllReadyH.cons (o := _) rfl (fun K hK => ?_) AllReadyH.nil
            rw [if_pos (by kernel_rfl)]
            go_simp
            first | refine hK.out _ _ ?_ (fun hHeld => ?_) | (go_wp2_with fail; refine hK.out _ _ ?_ (fun hHeld => ?_))
            · exact HKS.out _ HKA.out
            clear hK K
            try simp only [List.getElem_toArray, List.getElem_cons_zero, List.getElem_cons_succ, Act.put, List.setIfInBounds_toArray, List.set_cons_zero, List.set_cons_succ]
            refine wpAnyH_ready (rs := [7]) (by kernel_rfl) (by simp) ?_
            refine AllReadyH.cons (o := _) rfl (fun K hK => ?_) AllReadyH.nil
            rw [if_pos (by kernel_rfl)]
            go_simp
            first | refine hK.out _ _ ?_ (fun hHeld => ?_) | (go_wp2_with fail; refine hK.out _ _ ?_ (fun hHeld => ?_))
            · exact HKS.out _ HKB.out
            clear hK K
            try simp only [List.getElem_toArray, List.getElem_cons_zero, List.getElem_cons_succ, Act.put, List.setIfInBounds_toArray, List.set_cons_zero, List.set_cons_succ]
            refine wpAnyH_done (by kernel_rfl) ?_ _
            clear f40 f41 f42 f43 f50 f51 f52 f53 g40 g41 g42 g43 g50 g51 g52 g53 hHeld HKA HKB KC hne hne2
            go_wp2_with fail
            go_meet
            case rel => exact ⟨b4, b5, rfl, rfl, Lib.hid (HEND.out _ rfl)⟩
        · rw [if_pos (by kernel_rfl)]
          go_simp
          obtain ⟨y5, hz⟩ : ∃ z, z4.alloc (.cells #[.int .i64 0, .int .i64 0, .slice none 0 0, .slice none 0 0] 25) = z := ⟨_, rfl⟩
          obtain ⟨b5, hbb⟩ : ∃ q, z4.heap.size = q := ⟨_, rfl⟩
          have HB5 : Hid (z4.heap.size = b5 ∧ y5.heap.size = b5 + 1 ∧ y5.heap[b5]? = some (.cells #[.int .i64 0, .int .i64 0, .slice none 0 0, .slice none 0 0] 25 (0, 0))) := Lib.hid ⟨hbb, by rw [← hz, ← hbb]; simp, by rw [← hz, ← hbb, new_al]⟩
          have Q1 : Hid (Below z4.heap.size z4 y5) := Lib.hid (by rw [← hz]; exact (Below.refl _ z4).alloc (Nat.le_refl _) _)
          have KC := KC.trans (Q1.out.mono KC.size)
          rw [hz, hbb]
          clear hz hbb
          first | refine hK.out _ _ ?_ (fun hHeld => ?_) | (go_wp2_with fail; refine hK.out _ _ ?_ (fun hHeld => ?_))
          · exact HKS.out _ KC
          clear hK K
          try simp only [List.getElem_toArray, List.getElem_cons_zero, List.getElem_cons_succ, Act.put, List.setIfInBounds_toArray, List.set_cons_zero, List.set_cons_succ]
          refine wpAnyH_ready (rs := [3, 4]) (by kernel_rfl) (by simp) ?_
          refine AllReadyH.cons (o := _) rfl (fun K hK => ?_) (AllReadyH.cons (o := _) rfl (fun K hK => ?_) AllReadyH.nil)
          · rw [if_pos (by kernel_rfl)]
            go_simp
            (go_at_call 12; (with_reducible refine (D5.out _ (HX2.out.keep KC).a.at_).mono ?_); rintro e z5 ⟨P5, N5, co5, cn5, cc5, oo5, on5, oc5, cs5, os5, rfl, HC5, q⟩)
            have HN5 : Hid (y5.heap.size ≤ z5.heap.size) := Lib.hid q.out.size
            have Q2 := Lib.hid (q.out)
            have KC := KC.trans (q.out.mono KC.size)
            clear q
            first | refine hK.out _ _ ?_ (fun hHeld => ?_) | (go_wp2_with fail; refine hK.out _ _ ?_ (fun hHeld => ?_))
            · exact HKS.out _ KC
            clear hK K
            try simp only [List.getElem_toArray, List.getElem_cons_zero, List.getElem_cons_succ, Act.put, List.setIfInBounds_toArray, List.set_cons_zero, List.set_cons_succ]
            refine wpAnyH_ready (rs := [4]) (by kernel_rfl) (by simp) ?_
            refine AllReadyH.cons (o := _) rfl (fun K hK => ?_) AllReadyH.nil
            rw [if_pos (by kernel_rfl)]
            go_simp
            obtain ⟨y4, hz⟩ : ∃ z, z5.alloc (.cells #[.int .i64 0, .int .i64 0, .slice none 0 0, .slice none 0 0] 25) = z := ⟨_, rfl⟩
            obtain ⟨b4, hbb⟩ : ∃ q, z5.heap.size = q := ⟨_, rfl⟩
            have HB4 : Hid (z5.heap.size = b4 ∧ y4.heap.size = b4 + 1 ∧ y4.heap[b4]? = some (.cells #[.int .i64 0, .int .i64 0, .slice none 0 0, .slice none 0 0] 25 (0, 0))) := Lib.hid ⟨hbb, by rw [← hz, ← hbb]; simp, by rw [← hz, ← hbb, new_al]⟩
            have Q3 : Hid (Below z5.heap.size z5 y4) := Lib.hid (by rw [← hz]; exact (Below.refl _ z5).alloc (Nat.le_refl _) _)
            have KC := KC.trans (Q3.out.mono KC.size)
            rw [hz, hbb]
            clear hz hbb
            first | refine hK.out _ _ ?_ (fun hHeld => ?_) | (go_wp2_with fail; refine hK.out _ _ ?_ (fun hHeld => ?_))
            · exact HKS.out _ KC
            clear hK K
            try simp only [List.getElem_toArray, List.getElem_cons_zero, List.getElem_cons_succ, Act.put, List.setIfInBounds_toArray, List.set_cons_zero, List.set_cons_succ]
            have hb4 := HB4.out
            have hb5 := HB5.out
            have n0 : v3.heap.size ≤ z4.heap.size := Q0.out.size
            have n2 : y5.heap.size ≤ z5.heap.size := Q2.out.size
            have hne : b4 ≠ b5 := by omega
            have hl4 : v2.heap.size ≤ b4 := by have := HV3.out.size; omega
            have hl5 : v2.heap.size ≤ b5 := by have := HV3.out.size; omega
            have h4 : y4.heap[b4]? = some (.cells #[.int .i64 0, .int .i64 0, .slice none 0 0, .slice none 0 0] 25 (0, 0)) := hb4.2.2
            have h5 : y4.heap[b5]? = some (.cells #[.int .i64 0, .int .i64 0, .slice none 0 0, .slice none 0 0] 25 (0, 0)) := (Q3.out.block b5 (by omega)).trans ((Q2.out.block b5 (by omega)).trans (hb5.2.2))
            have e4 : ∀ q, q < z4.heap.size → y4.heap[q]? = z4.heap[q]? := fun q hq => (Q3.out.block q (by omega)).trans ((Q2.out.block q (by omega)).trans ((Q1.out.block q (by omega)).trans (rfl)))
            have s4 : z4.heap.size ≤ y4.heap.size := by omega
            have e5 : ∀ q, q < z5.heap.size → y4.heap[q]? = z5.heap[q]? := fun q hq => (Q3.out.block q (by omega)).trans (rfl)
            have s5 : z5.heap.size ≤ y4.heap.size := by omega
            have HF2 := Lib.hid (HX2.out)
            have HEND : Hid (∀ wE : World, wE = (((((((y4.setCell ⟨b4, 0, none⟩ (.int .i64 P4)).setCell ⟨b4, 1, none⟩ (.int .i64 N4)).setCell ⟨b4, 2, none⟩ (.slice co4 cn4 cc4)).setCell ⟨b4, 3, none⟩ (.slice oo4 on4 oc4)).setCell ⟨b5, 0, none⟩ (.int .i64 P5)).setCell ⟨b5, 1, none⟩ (.int .i64 N5)).setCell ⟨b5, 2, none⟩ (.slice co5 cn5 cc5)).setCell ⟨b5, 3, none⟩ (.slice oo5 on5 oc5) → ∃ Gc Gd : Fv, IsCan ⟨P1, N1, co1, cn1, cc1, oo1, on1, oc1, cs1, os1⟩ Gc ∧ IsCan ⟨P1, N1, co1, cn1, cc1, oo1, on1, oc1, cs1, os1⟩ Gd ∧ Quad w wE b b2 b4 b5 ⟨P1, N1, co1, cn1, cc1, oo1, on1, oc1, cs1, os1⟩ ⟨P1, N1, co2, cn1, cc2, oo2, on1, oc2, cs1, os1⟩ Gc Gd) := Lib.hid (fun wE hE => by
            obtain ⟨t1, t2, t3, t4⟩ := two_end h4 h5 hne hE
            have bE := KC.trans (t4 _ hl4 hl5 KC.size)
            have p := HF2.out.keep bE
            refine ⟨⟨P4, N4, co4, cn4, cc4, oo4, on4, oc4, cs4, os4⟩, ⟨P5, N5, co5, cn5, cc5, oo5, on5, oc5, cs5, os5⟩, HC4.out.1, HC5.out.1, p.a, p.b, fbox_at (ownF_between HC4.out.2 (fun q q1 q2 => (t3 q (by omega) (by omega) (by omega)).trans (e4 q q2))).at_ t1 p.a.bw, fbox_at (ownF_between HC5.out.2 (fun q q1 q2 => (t3 q (by omega) (by omega) (by omega)).trans (e5 q q2))).at_ t2 p.a.bw⟩)
            have f40 := block_free h4 0
            have f41 := block_free h4 1
            have f42 := block_free h4 2
            have f43 := block_free h4 3
            have f50 := block_free h5 0
            have f51 := block_free h5 1
            have f52 := block_free h5 2
            have f53 := block_free h5 3
            have g40 := cell_block h4 0
            have g41 := cell_block h4 1
            have g42 := cell_block h4 2
            have g43 := cell_block h4 3
            have g50 := cell_block h5 0
            have g51 := cell_block h5 1
            have g52 := cell_block h5 2
            have g53 := cell_block h5 3
            have hne2 : b5 ≠ b4 := fun z => hne z.symm
            have HKA := Lib.hid (KC.grown (grown_four y4 b4 (.int .i64 P4) (.int .i64 N4) (.slice co4 cn4 cc4) (.slice oo4 on4 oc4)) KC.size (fun q z => by cases z; exact hl4))
            have HKB := Lib.hid (HKA.out.grown (grown_four (((((y4).setCell ⟨b4, 0, none⟩ (.int .i64 P4)).setCell ⟨b4, 1, none⟩ (.int .i64 N4)).setCell ⟨b4, 2, none⟩ (.slice co4 cn4 cc4)).setCell ⟨b4, 3, none⟩ (.slice oo4 on4 oc4)) b5 (.int .i64 P5) (.int .i64 N5) (.slice co5 cn5 cc5) (.slice oo5 on5 oc5)) HKA.out.size (fun q z => by cases z; exact hl5))
            clear hb4 hb5 h4 h5 e4 e5 s4 s5 hl4 hl5 n0 n2
            refine wpAnyH_ready (rs := [6]) (by kernel_rfl) (by simp) ?_
            refine AllReadyH.cons (o := _) rfl (fun K hK => ?_) AllReadyH.nil
            rw [if_pos (by kernel_rfl)]
            go_simp
            first | refine hK.out _ _ ?_ (fun hHeld => ?_) | (go_wp2_with fail; refine hK.out _ _ ?_ (fun hHeld => ?_))
            · exact HKS.out _ HKA.out
            clear hK K
            try simp only [List.getElem_toArray, List.getElem_cons_zero, List.getElem_cons_succ, Act.put, List.setIfInBounds_toArray, List.set_cons_zero, List.set_cons_succ]
            refine wpAnyH_ready (rs := [7]) (by kernel_rfl) (by simp) ?_
            refine AllReadyH.cons (o := _) rfl (fun K hK => ?_) AllReadyH.nil
            rw [if_pos (by kernel_rfl)]
            go_simp
            first | refine hK.out _ _ ?_ (fun hHeld => ?_) | (go_wp2_with fail; refine hK.out _ _ ?_ (fun hHeld => ?_))
            · exact HKS.out _ HKB.out
            clear hK K
            try simp only [List.getElem_toArray, List.getElem_cons_zero, List.getElem_cons_succ, Act.put, List.setIfInBounds_toArray, List.set_cons_zero, List.set_cons_succ]
            refine wpAnyH_done (by kernel_rfl) ?_ _
            clear f40 f41 f42 f43 f50 f51 f52 f53 g40 g41 g42 g43 g50 g51 g52 g53 hHeld HKA HKB KC hne hne2
            go_wp2_with fail
            go_meet
            case rel => exact ⟨b4, b5, rfl, rfl, Lib.hid (HEND.out _ rfl)⟩
          · rw [if_pos (by kernel_rfl)]
            go_simp
            obtain ⟨y4, hz⟩ : ∃ z, y5.alloc (.cells #[.int .i64 0, .int .i64 0, .slice none 0 0, .slice none 0 0] 25) = z := ⟨_, rfl⟩
            obtain ⟨b4, hbb⟩ : ∃ q, y5.heap.size = q := ⟨_, rfl⟩
            have HB4 : Hid (y5.heap.size = b4 ∧ y4.heap.size = b4 + 1 ∧ y4.heap[b4]? = some (.cells #[.int .i64 0, .int .i64 0, .slice none 0 0, .slice none 0 0] 25 (0, 0))) := Lib.hid ⟨hbb, by rw [← hz, ← hbb]; simp, by rw [← hz, ← hbb, new_al]⟩
            have Q2 : Hid (Below y5.heap.size y5 y4) := Lib.hid (by rw [← hz]; exact (Below.refl _ y5).alloc (Nat.le_refl _) _)
            have KC := KC.trans (Q2.out.mono KC.size)
            rw [hz, hbb]
            clear hz hbb
            first | refine hK.out _ _ ?_ (fun hHeld => ?_) | (go_wp2_with fail; refine hK.out _ _ ?_ (fun hHeld => ?_))
            · exact HKS.out _ KC
            clear hK K
            try simp only [List.getElem_toArray, List.getElem_cons_zero, List.getElem_cons_succ, Act.put, List.setIfInBounds_toArray, List.set_cons_zero, List.set_cons_succ]
            refine wpAnyH_ready (rs := [3]) (by kernel_rfl) (by simp) ?_
            refine AllReadyH.cons (o := _) rfl (fun K hK => ?_) AllReadyH.nil
            rw [if_pos (by kernel_rfl)]
            go_simp
            (go_at_call 12; (with_reducible refine (D5.out _ (HX2.out.keep KC).a.at_).mono ?_); rintro e z5 ⟨P5, N5, co5, cn5, cc5, oo5, on5, oc5, cs5, os5, rfl, HC5, q⟩)
            have HN5 : Hid (y4.heap.size ≤ z5.heap.size) := Lib.hid q.out.size
            have Q3 := Lib.hid (q.out)
            have KC := KC.trans (q.out.mono KC.size)
            clear q
            first | refine hK.out _ _ ?_ (fun hHeld => ?_) | (go_wp2_with fail; refine hK.out _ _ ?_ (fun hHeld => ?_))
            · exact HKS.out _ KC
            clear hK K
            try simp only [List.getElem_toArray, List.getElem_cons_zero, List.getElem_cons_succ, Act.put, List.setIfInBounds_toArray, List.set_cons_zero, List.set_cons_succ]
            have hb4 := HB4.out
            have hb5 := HB5.out
            have n0 : v3.heap.size ≤ z4.heap.size := Q0.out.size
            have n3 : y4.heap.size ≤ z5.heap.size := Q3.out.size
            have hne : b4 ≠ b5 := by omega
            have hl4 : v2.heap.size ≤ b4 := by have := HV3.out.size; omega
            have hl5 : v2.heap.size ≤ b5 := by have := HV3.out.size; omega
            have h4 : z5.heap[b4]? = some (.cells #[.int .i64 0, .int .i64 0, .slice none 0 0, .slice none 0 0] 25 (0, 0)) := (Q3.out.block b4 (by omega)).trans (hb4.2.2)
            have h5 : z5.heap[b5]? = some (.cells #[.int .i64 0, .int .i64 0, .slice none 0 0, .slice none 0 0] 25 (0, 0)) := (Q3.out.block b5 (by omega)).trans ((Q2.out.block b5 (by omega)).trans (hb5.2.2))
            have e4 : ∀ q, q < z4.heap.size → z5.heap[q]? = z4.heap[q]? := fun q hq => (Q3.out.block q (by omega)).trans ((Q2.out.block q (by omega)).trans ((Q1.out.block q (by omega)).trans (rfl)))
            have s4 : z4.heap.size ≤ z5.heap.size := by omega
            have e5 : ∀ q, q < z5.heap.size → z5.heap[q]? = z5.heap[q]? := fun q hq => rfl
            have s5 : z5.heap.size ≤ z5.heap.size := by omega
            have HF2 := Lib.hid (HX2.out)
            have HEND : Hid (∀ wE : World, wE = (((((((z5.setCell ⟨b4, 0, none⟩ (.int .i64 P4)).setCell ⟨b4, 1, none⟩ (.int .i64 N4)).setCell ⟨b4, 2, none⟩ (.slice co4 cn4 cc4)).setCell ⟨b4, 3, none⟩ (.slice oo4 on4 oc4)).setCell ⟨b5, 0, none⟩ (.int .i64 P5)).setCell ⟨b5, 1, none⟩ (.int .i64 N5)).setCell ⟨b5, 2, none⟩ (.slice co5 cn5 cc5)).setCell ⟨b5, 3, none⟩ (.slice oo5 on5 oc5) → ∃ Gc Gd : Fv, IsCan ⟨P1, N1, co1, cn1, cc1, oo1, on1, oc1, cs1, os1⟩ Gc ∧ IsCan ⟨P1, N1, co1, cn1, cc1, oo1, on1, oc1, cs1, os1⟩ Gd ∧ Quad w wE b b2 b4 b5 ⟨P1, N1, co1, cn1, cc1, oo1, on1, oc1, cs1, os1⟩ ⟨P1, N1, co2, cn1, cc2, oo2, on1, oc2, cs1, os1⟩ Gc Gd) := Lib.hid (fun wE hE => by
            obtain ⟨t1, t2, t3, t4⟩ := two_end h4 h5 hne hE
            have bE := KC.trans (t4 _ hl4 hl5 KC.size)
            have p := HF2.out.keep bE
            refine ⟨⟨P4, N4, co4, cn4, cc4, oo4, on4, oc4, cs4, os4⟩, ⟨P5, N5, co5, cn5, cc5, oo5, on5, oc5, cs5, os5⟩, HC4.out.1, HC5.out.1, p.a, p.b, fbox_at (ownF_between HC4.out.2 (fun q q1 q2 => (t3 q (by omega) (by omega) (by omega)).trans (e4 q q2))).at_ t1 p.a.bw, fbox_at (ownF_between HC5.out.2 (fun q q1 q2 => (t3 q (by omega) (by omega) (by omega)).trans (e5 q q2))).at_ t2 p.a.bw⟩)
            have f40 := block_free h4 0
            have f41 := block_free h4 1
            have f42 := block_free h4 2
            have f43 := block_free h4 3
            have f50 := block_free h5 0
            have f51 := block_free h5 1
            have f52 := block_free h5 2
            have f53 := block_free h5 3
            have g40 := cell_block h4 0
            have g41 := cell_block h4 1
            have g42 := cell_block h4 2
            have g43 := cell_block h4 3
            have g50 := cell_block h5 0
            have g51 := cell_block h5 1
            have g52 := cell_block h5 2
            have g53 := cell_block h5 3
            have hne2 : b5 ≠ b4 := fun z => hne z.symm
            have HKA := Lib.hid (KC.grown (grown_four z5 b4 (.int .i64 P4) (.int .i64 N4) (.slice co4 cn4 cc4) (.slice oo4 on4 oc4)) KC.size (fun q z => by cases z; exact hl4))
            have HKB := Lib.hid (HKA.out.grown (grown_four (((((z5).setCell ⟨b4, 0, none⟩ (.int .i64 P4)).setCell ⟨b4, 1, none⟩ (.int .i64 N4)).setCell ⟨b4, 2, none⟩ (.slice co4 cn4 cc4)).setCell ⟨b4, 3, none⟩ (.slice oo4 on4 oc4)) b5 (.int .i64 P5) (.int .i64 N5) (.slice co5 cn5 cc5) (.slice oo5 on5 oc5)) HKA.out.size (fun q z => by cases z; exact hl5))
            clear hb4 hb5 h4 h5 e4 e5 s4 s5 hl4 hl5 n0 n3
            refine wpAnyH_ready (rs := [6]) (by kernel_rfl) (by simp) ?_
            refine AllReadyH.cons (o := _) rfl (fun K hK => ?_) AllReadyH.nil
            rw [if_pos (by kernel_rfl)]
            go_simp
            first | refine hK.out _ _ ?_ (fun hHeld => ?_) | (go_wp2_with fail; refine hK.out _ _ ?_ (fun hHeld => ?_))
            · exact HKS.out _ HKA.out
            clear hK K
            try simp only [List.getElem_toArray, List.getElem_cons_zero, List.getElem_cons_succ, Act.put, List.setIfInBounds_toArray, List.set_cons_zero, List.set_cons_succ]
            refine wpAnyH_ready (rs := [7]) (by kernel_rfl) (by simp) ?_
            refine AllReadyH.cons (o := _) rfl (fun K hK => ?_) AllReadyH.nil
            rw [if_pos (by kernel_rfl)]
            go_simp
            first | refine hK.out _ _ ?_ (fun hHeld => ?_) | (go_wp2_with fail; refine hK.out _ _ ?_ (fun hHeld => ?_))
            · exact HKS.out _ HKB.out
            clear hK K
            try simp only [List.getElem_toArray, List.getElem_cons_zero, List.getElem_cons_succ, Act.put, List.setIfInBounds_toArray, List.set_cons_zero, List.set_cons_succ]
            refine wpAnyH_done (by kernel_rfl) ?_ _
            clear f40 f41 f42 f43 f50 f51 f52 f53 g40 g41 g42 g43 g50 g51 g52 g53 hHeld HKA HKB KC hne hne2
            go_wp2_with fail
            go_meet
            case rel => exact ⟨b4, b5, rfl, rfl, Lib.hid (HEND.out _ rfl)⟩
      · rw [if_pos (by kernel_rfl)]
        go_simp
        obtain ⟨y4, hz⟩ : ∃ z, v3.alloc (.cells #[.int .i64 0, .int .i64 0, .slice none 0 0, .slice none 0 0] 25) = z := ⟨_, rfl⟩
        obtain ⟨b4, hbb⟩ : ∃ q, v3.heap.size = q := ⟨_, rfl⟩
        have HB4 : Hid (v3.heap.size = b4 ∧ y4.heap.size = b4 + 1 ∧ y4.heap[b4]? = some (.cells #[.int .i64 0, .int .i64 0, .slice none 0 0, .slice none 0 0] 25 (0, 0))) := Lib.hid ⟨hbb, by rw [← hz, ← hbb]; simp, by rw [← hz, ← hbb, new_al]⟩
        have Q0 : Hid (Below v3.heap.size v3 y4) := Lib.hid (by rw [← hz]; exact (Below.refl _ v3).alloc (Nat.le_refl _) _)
        have KC := KC.trans (Q0.out.mono KC.size)
        rw [hz, hbb]
        clear hz hbb
        first | refine hK.out _ _ ?_ (fun hHeld => ?_) | (go_wp2_with fail; refine hK.out _ _ ?_ (fun hHeld => ?_))
        · exact HKS.out _ KC
        clear hK K
        try simp only [List.getElem_toArray, List.getElem_cons_zero, List.getElem_cons_succ, Act.put, List.setIfInBounds_toArray, List.set_cons_zero, List.set_cons_succ]
        refine wpAnyH_ready (rs := [1, 5]) (by kernel_rfl) (by simp) ?_
        refine AllReadyH.cons (o := _) rfl (fun K hK => ?_) (AllReadyH.cons (o := _) rfl (fun K hK => ?_) AllReadyH.nil)
        · rw [if_pos (by kernel_rfl)]
          go_simp
          (go_at_call 11; (with_reducible refine (D4.out _ (HX2.out.keep KC).b.at_).mono ?_); rintro e z4 ⟨P4, N4, co4, cn4, cc4, oo4, on4, oc4, cs4, os4, rfl, HC4, q⟩)
          have HN4 : Hid (y4.heap.size ≤ z4.heap.size) := Lib.hid q.out.size
          have Q1 := Lib.hid (q.out)
          have KC := KC.trans (q.out.mono KC.size)
          clear q
          first | refine hK.out _ _ ?_ (fun hHeld => ?_) | (go_wp2_with fail; refine hK.out _ _ ?_ (fun hHeld => ?_))
          · exact HKS.out _ KC
          clear hK K
          try simp only [List.getElem_toArray, List.getElem_cons_zero, List.getElem_cons_succ, Act.put, List.setIfInBounds_toArray, List.set_cons_zero, List.set_cons_succ]
          refine wpAnyH_ready (rs := [3, 5]) (by kernel_rfl) (by simp) ?_
          refine AllReadyH.cons (o := _) rfl (fun K hK => ?_) (AllReadyH.cons (o := _) rfl (fun K hK => ?_) AllReadyH.nil)
          · rw [if_pos (by kernel_rfl)]
            go_simp
            (go_at_call 12; (with_reducible refine (D5.out _ (HX2.out.keep KC).a.at_).mono ?_); rintro e z5 ⟨P5, N5, co5, cn5, cc5, oo5, on5, oc5, cs5, os5, rfl, HC5, q⟩)
            have HN5 : Hid (z4.heap.size ≤ z5.heap.size) := Lib.hid q.out.size
            have Q2 := Lib.hid (q.out)
            have KC := KC.trans (q.out.mono KC.size)
            clear q
            first | refine hK.out _ _ ?_ (fun hHeld => ?_) | (go_wp2_with fail; refine hK.out _ _ ?_ (fun hHeld => ?_))
            · exact HKS.out _ KC
            clear hK K
            try simp only [List.getElem_toArray, List.getElem_cons_zero, List.getElem_cons_succ, Act.put, List.setIfInBounds_toArray, List.set_cons_zero, List.set_cons_succ]
            refine wpAnyH_ready (rs := [5]) (by kernel_rfl) (by simp) ?_
            refine AllReadyH.cons (o := _) rfl (fun K hK => ?_) AllReadyH.nil
            rw [if_pos (by kernel_rfl)]
            go_simp
            obtain ⟨y5, hz⟩ : ∃ z, z5.alloc (.cells #[.int .i64 0, .int .i64 0, .slice none 0 0, .slice none 0 0] 25) = z := ⟨_, rfl⟩
            obtain ⟨b5, hbb⟩ : ∃ q, z5.heap.size = q := ⟨_, rfl⟩
            have HB5 : Hid (z5.heap.size = b5 ∧ y5.heap.size = b5 + 1 ∧ y5.heap[b5]? = some (.cells #[.int .i64 0, .int .i64 0, .slice none 0 0, .slice none 0 0] 25 (0, 0))) := Lib.hid ⟨hbb, by rw [← hz, ← hbb]; simp, by rw [← hz, ← hbb, new_al]⟩
            have Q3 : Hid (Below z5.heap.size z5 y5) := Lib.hid (by rw [← hz]; exact (Below.refl _ z5).alloc (Nat.le_refl _) _)
            have KC := KC.trans (Q3.out.mono KC.size)
            rw [hz, hbb]
            clear hz hbb
            first | refine hK.out _ _ ?_ (fun hHeld => ?_) | (go_wp2_with fail; refine hK.out _ _ ?_ (fun hHeld => ?_))
            · exact HKS.out _ KC
            clear hK K
            try simp only [List.getElem_toArray, List.getElem_cons_zero, List.getElem_cons_succ, Act.put, List.setIfInBounds_toArray, List.set_cons_zero, List.set_cons_succ]
            have hb4 := HB4.out
            have hb5 := HB5.out
            have n1 : y4.heap.size ≤ z4.heap.size := Q1.out.size
            have n2 : z4.heap.size ≤ z5.heap.size := Q2.out.size
            have hne : b4 ≠ b5 := by omega
            have hl4 : v2.heap.size ≤ b4 := by have := HV3.out.size; omega
            have hl5 : v2.heap.size ≤ b5 := by have := HV3.out.size; omega
            have h4 : y5.heap[b4]? = some (.cells #[.int .i64 0, .int .i64 0, .slice none 0 0, .slice none 0 0] 25 (0, 0)) := (Q3.out.block b4 (by omega)).trans ((Q2.out.block b4 (by omega)).trans ((Q1.out.block b4 (by omega)).trans (hb4.2.2)))
            have h5 : y5.heap[b5]? = some (.cells #[.int .i64 0, .int .i64 0, .slice none 0 0, .slice none 0 0] 25 (0, 0)) := hb5.2.2
            have e4 : ∀ q, q < z4.heap.size → y5.heap[q]? = z4.heap[q]? := fun q hq => (Q3.out.block q (by omega)).trans ((Q2.out.block q (by omega)).trans (rfl))
            have s4 : z4.heap.size ≤ y5.heap.size := by omega
            have e5 : ∀ q, q < z5.heap.size → y5.heap[q]? = z5.heap[q]? := fun q hq => (Q3.out.block q (by omega)).trans (rfl)
            have s5 : z5.heap.size ≤ y5.heap.size := by omega
            have HF2 := Lib.hid (HX2.out)
            have HEND : Hid (∀ wE : World, wE = (((((((y5.setCell ⟨b4, 0, none⟩ (.int .i64 P4)).setCell ⟨b4, 1, none⟩ (.int .i64 N4)).setCell ⟨b4, 2, none⟩ (.slice co4 cn4 cc4)).setCell ⟨b4, 3, none⟩ (.slice oo4 on4 oc4)).setCell ⟨b5, 0, none⟩ (.int .i64 P5)).setCell ⟨b5, 1, none⟩ (.int .i64 N5)).setCell ⟨b5, 2, none⟩ (.slice co5 cn5 cc5)).setCell ⟨b5, 3, none⟩ (.slice oo5 on5 oc5) → ∃ Gc Gd : Fv, IsCan ⟨P1, N1, co1, cn1, cc1, oo1, on1, oc1, cs1, os1⟩ Gc ∧ IsCan ⟨P1, N1, co1, cn1, cc1, oo1, on1, oc1, cs1, os1⟩ Gd ∧ Quad w wE b b2 b4 b5 ⟨P1, N1, co1, cn1, cc1, oo1, on1, oc1, cs1, os1⟩ ⟨P1, N1, co2, cn1, cc2, oo2, on1, oc2, cs1, os1⟩ Gc Gd) := Lib.hid (fun wE hE => by
            obtain ⟨t1, t2, t3, t4⟩ := two_end h4 h5 hne hE
            have bE := KC.trans (t4 _ hl4 hl5 KC.size)
            have p := HF2.out.keep bE
            refine ⟨⟨P4, N4, co4, cn4, cc4, oo4, on4, oc4, cs4, os4⟩, ⟨P5, N5, co5, cn5, cc5, oo5, on5, oc5, cs5, os5⟩, HC4.out.1, HC5.out.1, p.a, p.b, fbox_at (ownF_between HC4.out.2 (fun q q1 q2 => (t3 q (by omega) (by omega) (by omega)).trans (e4 q q2))).at_ t1 p.a.bw, fbox_at (ownF_between HC5.out.2 (fun q q1 q2 => (t3 q (by omega) (by omega) (by omega)).trans (e5 q q2))).at_ t2 p.a.bw⟩)
            have f40 := block_free h4 0
            have f41 := block_free h4 1
            have f42 := block_free h4 2
            have f43 := block_free h4 3
            have f50 := block_free h5 0
            have f51 := block_free h5 1
            have f52 := block_free h5 2
            have f53 := block_free h5 3
            have g40 := cell_block h4 0
            have g41 := cell_block h4 1
            have g42 := cell_block h4 2
            have g43 := cell_block h4 3
            have g50 := cell_block h5 0
            have g51 := cell_block h5 1
            have g52 := cell_block h5 2
            have g53 := cell_block h5 3
            have hne2 : b5 ≠ b4 := fun z => hne z.symm
            have HKA := Lib.hid (KC.grown (grown_four y5 b4 (.int .i64 P4) (.int .i64 N4) (.slice co4 cn4 cc4) (.slice oo4 on4 oc4)) KC.size (fun q z => by cases z; exact hl4))
            have HKB := Lib.hid (HKA.out.grown (grown_four (((((y5).setCell ⟨b4, 0, none⟩ (.int .i64 P4)).setCell ⟨b4, 1, none⟩ (.int .i64 N4)).setCell ⟨b4, 2, none⟩ (.slice co4 cn4 cc4)).setCell ⟨b4, 3, none⟩ (.slice oo4 on4 oc4)) b5 (.int .i64 P5) (.int .i64 N5) (.slice co5 cn5 cc5) (.slice oo5 on5 oc5)) HKA.out.size (fun q z => by cases z; exact hl5))
            clear hb4 hb5 h4 h5 e4 e5 s4 s5 hl4 hl5 n1 n2
            refine wpAnyH_ready (rs := [6]) (by kernel_rfl) (by simp) ?_
            refine AllReadyH.cons (o := _) rfl (fun K hK => ?_) AllReadyH.nil
            rw [if_pos (by kernel_rfl)]
            go_simp
            first | refine hK.out _ _ ?_ (fun hHeld => ?_) | (go_wp2_with fail; refine hK.out _ _ ?_ (fun hHeld => ?_))
            · exact HKS.out _ HKA.out
            clear hK K
            try simp only [List.getElem_toArray, List.getElem_cons_zero, List.getElem_cons_succ, Act.put, List.setIfInBounds_toArray, List.set_cons_zero, List.set_cons_succ]
            refine wpAnyH_ready (rs := [7]) (by kernel_rfl) (by simp) ?_
            refine AllReadyH.cons (o := _) rfl (fun K hK => ?_) AllReadyH.nil
            rw [if_pos (by kernel_rfl)]
            go_simp
            first | refine hK.out _ _ ?_ (fun hHeld => ?_) | (go_wp2_with fail; refine hK.out _ _ ?_ (fun hHeld => ?_))
            · exact HKS.out _ HKB.out
            clear hK K
            try simp only [List.getElem_toArray, List.getElem_cons_zero, List.getElem_cons_succ, Act.put, List.setIfInBounds_toArray, List.set_cons_zero, List.set_cons_succ]
            refine wpAnyH_done (by kernel_rfl) ?_ _
            clear f40 f41 f42 f43 f50 f51 f52 f53 g40 g41 g42 g43 g50 g51 g52 g53 hHeld HKA HKB KC hne hne2
            go_wp2_with fail
            go_meet
            case rel => exact ⟨b4, b5, rfl, rfl, Lib.hid (HEND.out _ rfl)⟩
          · rw [if_pos (by kernel_rfl)]
            go_simp
            obtain ⟨y5, hz⟩ : ∃ z, z4.alloc (.cells #[.int .i64 0, .int .i64 0, .slice none 0 0, .slice none 0 0] 25) = z := ⟨_, rfl⟩
            obtain ⟨b5, hbb⟩ : ∃ q, z4.heap.size = q := ⟨_, rfl⟩
            have HB5 : Hid (z4.heap.size = b5 ∧ y5.heap.size = b5 + 1 ∧ y5.heap[b5]? = some (.cells #[.int .i64 0, .int .i64 0, .slice none 0 0, .slice none 0 0] 25 (0, 0))) := Lib.hid ⟨hbb, by rw [← hz, ← hbb]; simp, by rw [← hz, ← hbb, new_al]⟩
            have Q2 : Hid (Below z4.heap.size z4 y5) := Lib.hid (by rw [← hz]; exact (Below.refl _ z4).alloc (Nat.le_refl _) _)
            have KC := KC.trans (Q2.out.mono KC.size)
            rw [hz, hbb]
            clear hz hbb
            first | refine hK.out _ _ ?_ (fun hHeld => ?_) | (go_wp2_with fail; refine hK.out _ _ ?_ (fun hHeld => ?_))
            · exact HKS.out _ KC
            clear hK K
            try simp only [List.getElem_toArray, List.getElem_cons_zero, List.getElem_cons_succ, Act.put, List.setIfInBounds_toArray, List.set_cons_zero, List.set_cons_succ]
            refine wpAnyH_ready (rs := [3]) (by kernel_rfl) (by simp) ?_
            refine AllReadyH.cons (o := _) rfl (fun K hK => ?_) AllReadyH.nil
            rw [if_pos (by kernel_rfl)]
            go_simp
            (go_at_call 12; (with_reducible refine (D5.out _ (HX2.out.keep KC).a.at_).mono ?_); rintro e z5 ⟨P5, N5, co5, cn5, cc5, oo5, on5, oc5, cs5, os5, rfl, HC5, q⟩)
            have HN5 : Hid (y5.heap.size ≤ z5.heap.size) := Lib.hid q.out.size
            have Q3 := Lib.hid (q.out)
            have KC := KC.trans (q.out.mono KC.size)
            clear q
            first | refine hK.out _ _ ?_ (fun hHeld => ?_) | (go_wp2_with fail; refine hK.out _ _ ?_ (fun hHeld => ?_))
            · exact HKS.out _ KC
            clear hK K
            try simp only [List.getElem_toArray, List.getElem_cons_zero, List.getElem_cons_succ, Act.put, List.setIfInBounds_toArray, List.set_cons_zero, List.set_cons_succ]
            have hb4 := HB4.out
            have hb5 := HB5.out
            have n1 : y4.heap.size ≤ z4.heap.size := Q1.out.size
            have n3 : y5.heap.size ≤ z5.heap.size := Q3.out.size
            have hne : b4 ≠ b5 := by omega
            have hl4 : v2.heap.size ≤ b4 := by have := HV3.out.size; omega
            have hl5 : v2.heap.size ≤ b5 := by have := HV3.out.size; omega
            have h4 : z5.heap[b4]? = some (.cells #[.int .i64 0, .int .i64 0, .slice none 0 0, .slice none 0 0] 25 (0, 0)) := (Q3.out.block b4 (by omega)).trans ((Q2.out.block b4 (by omega)).trans ((Q1.out.block b4 (by omega)).trans (hb4.2.2)))
            have h5 : z5.heap[b5]? = some (.cells #[.int .i64 0, .int .i64 0, .slice none 0 0, .slice none 0 0] 25 (0, 0)) := (Q3.out.block b5 (by omega)).trans (hb5.2.2)
            have e4 : ∀ q, q < z4.heap.size → z5.heap[q]? = z4.heap[q]? := fun q hq => (Q3.out.block q (by omega)).trans ((Q2.out.block q (by omega)).trans (rfl))
            have s4 : z4.heap.size ≤ z5.heap.size := by omega
            have e5 : ∀ q, q < z5.heap.size → z5.heap[q]? = z5.heap[q]? := fun q hq => rfl
            have s5 : z5.heap.size ≤ z5.heap.size := by omega
            have HF2 := Lib.hid (HX2.out)
            have HEND : Hid (∀ wE : World, wE = (((((((z5.setCell ⟨b4, 0, none⟩ (.int .i64 P4)).setCell ⟨b4, 1, none⟩ (.int .i64 N4)).setCell ⟨b4, 2, none⟩ (.slice co4 cn4 cc4)).setCell ⟨b4, 3, none⟩ (.slice oo4 on4 oc4)).setCell ⟨b5, 0, none⟩ (.int .i64 P5)).setCell ⟨b5, 1, none⟩ (.int .i64 N5)).setCell ⟨b5, 2, none⟩ (.slice co5 cn5 cc5)).setCell ⟨b5, 3, none⟩ (.slice oo5 on5 oc5) → ∃ Gc Gd : Fv, IsCan ⟨P1, N1, co1, cn1, cc1, oo1, on1, oc1, cs1, os1⟩ Gc ∧ IsCan ⟨P1, N1, co1, cn1, cc1, oo1, on1, oc1, cs1, os1⟩ Gd ∧ Quad w wE b b2 b4 b5 ⟨P1, N1, co1, cn1, cc1, oo1, on1, oc1, cs1, os1⟩ ⟨P1, N1, co2, cn1, cc2, oo2, on1, oc2, cs1, os1⟩ Gc Gd) := Lib.hid (fun wE hE => by
            obtain ⟨t1, t2, t3, t4⟩ := two_end h4 h5 hne hE
            have bE := KC.trans (t4 _ hl4 hl5 KC.size)
            have p := HF2.out.keep bE
            refine ⟨⟨P4, N4, co4, cn4, cc4, oo4, on4, oc4, cs4, os4⟩, ⟨P5, N5, co5, cn5, cc5, oo5, on5, oc5, cs5, os5⟩, HC4.out.1, HC5.out.1, p.a, p.b, fbox_at (ownF_between HC4.out.2 (fun q q1 q2 => (t3 q (by omega) (by omega) (by omega)).trans (e4 q q2))).at_ t1 p.a.bw, fbox_at (ownF_between HC5.out.2 (fun q q1 q2 => (t3 q (by omega) (by omega) (by omega)).trans (e5 q q2))).at_ t2 p.a.bw⟩)
            have f40 := block_free h4 0
            have f41 := block_free h4 1
            have f42 := block_free h4 2
            have f43 := block_free h4 3
            have f50 := block_free h5 0
            have f51 := block_free h5 1
            have f52 := block_free h5 2
            have f53 := block_free h5 3
            have g40 := cell_block h4 0
            have g41 := cell_block h4 1
            have g42 := cell_block h4 2
            have g43 := cell_block h4 3
            have g50 := cell_block h5 0
            have g51 := cell_block h5 1
            have g52 := cell_block h5 2
            have g53 := cell_block h5 3
            have hne2 : b5 ≠ b4 := fun z => hne z.symm
            have HKA := Lib.hid (KC.grown (grown_four z5 b4 (.int .i64 P4) (.int .i64 N4) (.slice co4 cn4 cc4) (.slice oo4 on4 oc4)) KC.size (fun q z => by cases z; exact hl4))
            have HKB := Lib.hid (HKA.out.grown (grown_four (((((z5).setCell ⟨b4, 0, none⟩ (.int .i64 P4)).setCell ⟨b4, 1, none⟩ (.int .i64 N4)).setCell ⟨b4, 2, none⟩ (.slice co4 cn4 cc4)).setCell ⟨b4, 3, none⟩ (.slice oo4 on4 oc4)) b5 (.int .i64 P5) (.int .i64 N5) (.slice co5 cn5 cc5) (.slice oo5 on5 oc5)) HKA.out.size (fun q z => by cases z; exact hl5))
            clear hb4 hb5 h4 h5 e4 e5 s4 s5 hl4 hl5 n1 n3
            refine wpAnyH_ready (rs := [6]) (by kernel_rfl) (by simp) ?_
            refine AllReadyH.cons (o := _) rfl (fun K hK => ?_) AllReadyH.nil
            rw [if_pos (by kernel_rfl)]
            go_simp
            first | refine hK.out _ _ ?_ (fun hHeld => ?_) | (go_wp2_with fail; refine hK.out _ _ ?_ (fun hHeld => ?_))
            · exact HKS.out _ HKA.out
            clear hK K
            try simp only [List.getElem_toArray, List.getElem_cons_zero, List.getElem_cons_succ, Act.put, List.setIfInBounds_toArray, List.set_cons_zero, List.set_cons_succ]
            refine wpAnyH_ready (rs := [7]) (by kernel_rfl) (by simp) ?_
            refine AllReadyH.cons (o := _) rfl (fun K hK => ?_) AllReadyH.nil
            rw [if_pos (by kernel_rfl)]
            go_simp
            first | refine hK.out _ _ ?_ (fun hHeld => ?_) | (go_wp2_with fail; refine hK.out _ _ ?_ (fun hHeld => ?_))
            · exact HKS.out _ HKB.out
            clear hK K
            try simp only [List.getElem_toArray, List.getElem_cons_zero, List.getElem_cons_succ, Act.put, List.setIfInBounds_toArray, List.set_cons_zero, List.set_cons_succ]
            refine wpAnyH_done (by kernel_rfl) ?_ _
            clear f40 f41 f42 f43 f50 f51 f52 f53 g40 g41 g42 g43 g50 g51 g52 g53 hHeld HKA HKB KC hne hne2
            go_wp2_with fail
            go_meet
            case rel => exact ⟨b4, b5, rfl, rfl, Lib.hid (HEND.out _ rfl)⟩
        · rw [if_pos (by kernel_rfl)]
          go_simp
          obtain ⟨y5, hz⟩ : ∃ z, y4.alloc (.cells #[.int .i64 0, .int .i64 0, .slice none 0 0, .slice none 0 0] 25) = z := ⟨_, rfl⟩
          obtain ⟨b5, hbb⟩ : ∃ q, y4.heap.size = q := ⟨_, rfl⟩
          have HB5 : Hid (y4.heap.size = b5 ∧ y5.heap.size = b5 + 1 ∧ y5.heap[b5]? = some (.cells #[.int .i64 0, .int .i64 0, .slice none 0 0, .slice none 0 0] 25 (0, 0))) := Lib.hid ⟨hbb, by rw [← hz, ← hbb]; simp, by rw [← hz, ← hbb, new_al]⟩
          have Q1 : Hid (Below y4.heap.size y4 y5) := Lib.hid (by rw [← hz]; exact (Below.refl _ y4).alloc (Nat.le_refl _) _)
          have KC := KC.trans (Q1.out.mono KC.size)
          rw [hz, hbb]
          clear hz hbb
          first | refine hK.out _ _ ?_ (fun hHeld => ?_) | (go_wp2_with fail; refine hK.out _ _ ?_ (fun hHeld => ?_))
          · exact HKS.out _ KC
          clear hK K
          try simp only [List.getElem_toArray, List.getElem_cons_zero, List.getElem_cons_succ, Act.put, List.setIfInBounds_toArray, List.set_cons_zero, List.set_cons_succ]
          refine wpAnyH_ready (rs := [1]) (by kernel_rfl) (by simp) ?_
          refine AllReadyH.cons (o := _) rfl (fun K hK => ?_) AllReadyH.nil
          rw [if_pos (by kernel_rfl)]
          go_simp
          (go_at_call 11; (with_reducible refine (D4.out _ (HX2.out.keep KC).b.at_).mono ?_); rintro e z4 ⟨P4, N4, co4, cn4, cc4, oo4, on4, oc4, cs4, os4, rfl, HC4, q⟩)
          have HN4 : Hid (y5.heap.size ≤ z4.heap.size) := Lib.hid q.out.size
          have Q2 := Lib.hid (q.out)
          have KC := KC.trans (q.out.mono KC.size)
          clear q
          first | refine hK.out _ _ ?_ (fun hHeld => ?_) | (go_wp2_with fail; refine hK.out _ _ ?_ (fun hHeld => ?_))
          · exact HKS.out _ KC
          clear hK K
          try simp only [List.getElem_toArray, List.getElem_cons_zero, List.getElem_cons_succ, Act.put, List.setIfInBounds_toArray, List.set_cons_zero, List.set_cons_succ]
          refine wpAnyH_ready (rs := [3]) (by kernel_rfl) (by simp) ?_
          refine AllReadyH.cons (o := _) rfl (fun K hK => ?_) AllReadyH.nil
          rw [if_pos (by kernel_rfl)]
          go_simp
          (go_at_call 12; (with_reducible refine (D5.out _ (HX2.out.keep KC).a.at_).mono ?_); rintro e z5 ⟨P5, N5, co5, cn5, cc5, oo5, on5, oc5, cs5, os5, rfl, HC5, q⟩)
          have HN5 : Hid (z4.heap.size ≤ z5.heap.size) := Lib.hid q.out.size
          have Q3 := Lib.hid (q.out)
          have KC := KC.trans (q.out.mono KC.size)
          clear q
          first | refine hK.out _ _ ?_ (fun hHeld => ?_) | (go_wp2_with fail; refine hK.out _ _ ?_ (fun hHeld => ?_))
          · exact HKS.out _ KC
          clear hK K
          try simp only [List.getElem_toArray, List.getElem_cons_zero, List.getElem_cons_succ, Act.put, List.setIfInBounds_toArray, List.set_cons_zero, List.set_cons_succ]
          have hb4 := HB4.out
          have hb5 := HB5.out
          have n2 : y5.heap.size ≤ z4.heap.size := Q2.out.size
          have n3 : z4.heap.size ≤ z5.heap.size := Q3.out.size
          have hne : b4 ≠ b5 := by omega
          have hl4 : v2.heap.size ≤ b4 := by have := HV3.out.size; omega
          have hl5 : v2.heap.size ≤ b5 := by have := HV3.out.size; omega
          have h4 : z5.heap[b4]? = some (.cells #[.int .i64 0, .int .i64 0, .slice none 0 0, .slice none 0 0] 25 (0, 0)) := (Q3.out.block b4 (by omega)).trans ((Q2.out.block b4 (by omega)).trans ((Q1.out.block b4 (by omega)).trans (hb4.2.2)))
          have h5 : z5.heap[b5]? = some (.cells #[.int .i64 0, .int .i64 0, .slice none 0 0, .slice none 0 0] 25 (0, 0)) := (Q3.out.block b5 (by omega)).trans ((Q2.out.block b5 (by omega)).trans (hb5.2.2))
          have e4 : ∀ q, q < z4.heap.size → z5.heap[q]? = z4.heap[q]? := fun q hq => (Q3.out.block q (by omega)).trans (rfl)
          have s4 : z4.heap.size ≤ z5.heap.size := by omega
          have e5 : ∀ q, q < z5.heap.size → z5.heap[q]? = z5.heap[q]? := fun q hq => rfl
          have s5 : z5.heap.size ≤ z5.heap.size := by omega
          have HF2 := Lib.hid (HX2.out)
          have HEND : Hid (∀ wE : World, wE = (((((((z5.setCell ⟨b4, 0, none⟩ (.int .i64 P4)).setCell ⟨b4, 1, none⟩ (.int .i64 N4)).setCell ⟨b4, 2, none⟩ (.slice co4 cn4 cc4)).setCell ⟨b4, 3, none⟩ (.slice oo4 on4 oc4)).setCell ⟨b5, 0, none⟩ (.int .i64 P5)).setCell ⟨b5, 1, none⟩ (.int .i64 N5)).setCell ⟨b5, 2, none⟩ (.slice co5 cn5 cc5)).setCell ⟨b5, 3, none⟩ (.slice oo5 on5 oc5) → ∃ Gc Gd : Fv, IsCan ⟨P1, N1, co1, cn1, cc1, oo1, on1, oc1, cs1, os1⟩ Gc ∧ IsCan ⟨P1, N1, co1, cn1, cc1, oo1, on1, oc1, cs1, os1⟩ Gd ∧ Quad w wE b b2 b4 b5 ⟨P1, N1, co1, cn1, cc1, oo1, on1, oc1, cs1, os1⟩ ⟨P1, N1, co2, cn1, cc2, oo2, on1, oc2, cs1, os1⟩ Gc Gd) := Lib.hid (fun wE hE => by
          obtain ⟨t1, t2, t3, t4⟩ := two_end h4 h5 hne hE
          have bE := KC.trans (t4 _ hl4 hl5 KC.size)
          have p := HF2.out.keep bE
          refine ⟨⟨P4, N4, co4, cn4, cc4, oo4, on4, oc4, cs4, os4⟩, ⟨P5, N5, co5, cn5, cc5, oo5, on5, oc5, cs5, os5⟩, HC4.out.1, HC5.out.1, p.a, p.b, fbox_at (ownF_between HC4.out.2 (fun q q1 q2 => (t3 q (by omega) (by omega) (by omega)).trans (e4 q q2))).at_ t1 p.a.bw, fbox_at (ownF_between HC5.out.2 (fun q q1 q2 => (t3 q (by omega) (by omega) (by omega)).trans (e5 q q2))).at_ t2 p.a.bw⟩)
          have f40 := block_free h4 0
          have f41 := block_free h4 1
          have f42 := block_free h4 2
          have f43 := block_free h4 3
          have f50 := block_free h5 0
          have f51 := block_free h5 1
          have f52 := block_free h5 2
          have f53 := block_free h5 3
          have g40 := cell_block h4 0
          have g41 := cell_block h4 1
          have g42 := cell_block h4 2
          have g43 := cell_block h4 3
          have g50 := cell_block h5 0
          have g51 := cell_block h5 1
          have g52 := cell_block h5 2
          have g53 := cell_block h5 3
          have hne2 : b5 ≠ b4 := fun z => hne z.symm
          have HKA := Lib.hid (KC.grown (grown_four z5 b4 (.int .i64 P4) (.int .i64 N4) (.slice co4 cn4 cc4) (.slice oo4 on4 oc4)) KC.size (fun q z => by cases z; exact hl4))
          have HKB := Lib.hid (HKA.out.grown (grown_four (((((z5).setCell ⟨b4, 0, none⟩ (.int .i64 P4)).setCell ⟨b4, 1, none⟩ (.int .i64 N4)).setCell ⟨b4, 2, none⟩ (.slice co4 cn4 cc4)).setCell ⟨b4, 3, none⟩ (.slice oo4 on4 oc4)) b5 (.int .i64 P5) (.int .i64 N5) (.slice co5 cn5 cc5) (.slice oo5 on5 oc5)) HKA.out.size (fun q z => by cases z; exact hl5))
          clear hb4 hb5 h4 h5 e4 e5 s4 s5 hl4 hl5 n2 n3
          refine wpAnyH_ready (rs := [6]) (by kernel_rfl) (by simp) ?_
          refine AllReadyH.cons (o := _) rfl (fun K hK => ?_) AllReadyH.nil
          rw [if_pos (by kernel_rfl)]
          go_simp
          first | refine hK.out _ _ ?_ (fun hHeld => ?_) | (go_wp2_with fail; refine hK.out _ _ ?_ (fun hHeld => ?_))
          · exact HKS.out _ HKA.out
          clear hK K
          try simp only [List.getElem_toArray, List.getElem_cons_zero, List.getElem_cons_succ, Act.put, List.setIfInBounds_toArray, List.set_cons_zero, List.set_cons_succ]
          refine wpAnyH_ready (rs := [7]) (by kernel_rfl) (by simp) ?_
          refine AllReadyH.cons (o := _) rfl (fun K hK => ?_) AllReadyH.nil
          rw [if_pos (by kernel_rfl)]
          go_simp
          first | refine hK.out _ _ ?_ (fun hHeld => ?_) | (go_wp2_with fail; refine hK.out _ _ ?_ (fun hHeld => ?_))
          · exact HKS.out _ HKB.out
          clear hK K
          try simp only [List.getElem_toArray, List.getElem_cons_zero, List.getElem_cons_succ, Act.put, List.setIfInBounds_toArray, List.set_cons_zero, List.set_cons_succ]
          refine wpAnyH_done (by kernel_rfl) ?_ _
          clear f40 f41 f42 f43 f50 f51 f52 f53 g40 g41 g42 g43 g50 g51 g52 g53 hHeld HKA HKB KC hne hne2
          go_wp2_with fail
          go_meet
          case rel => exact ⟨b4, b5, rfl, rfl, Lib.hid (HEND.out _ rfl)⟩
      · rw [if_pos (by kernel_rfl)]
        go_simp
        obtain ⟨y5, hz⟩ : ∃ z, v3.alloc (.cells #[.int .i64 0, .int .i64 0, .slice none 0 0, .slice none 0 0] 25) = z := ⟨_, rfl⟩
        obtain ⟨b5, hbb⟩ : ∃ q, v3.heap.size = q := ⟨_, rfl⟩
        have HB5 : Hid (v3.heap.size = b5 ∧ y5.heap.size = b5 + 1 ∧ y5.heap[b5]? = some (.cells #[.int .i64 0, .int .i64 0, .slice none 0 0, .slice none 0 0] 25 (0, 0))) := Lib.hid ⟨hbb, by rw [← hz, ← hbb]; simp, by rw [← hz, ← hbb, new_al]⟩
        have Q0 : Hid (Below v3.heap.size v3 y5) := Lib.hid (by rw [← hz]; exact (Below.refl _ v3).alloc (Nat.le_refl _) _)
        have KC := KC.trans (Q0.out.mono KC.size)
        rw [hz, hbb]
        clear hz hbb
        first | refine hK.out _ _ ?_ (fun hHeld => ?_) | (go_wp2_with fail; refine hK.out _ _ ?_ (fun hHeld => ?_))
        · exact HKS.out _ KC
        clear hK K
        try simp only [List.getElem_toArray, List.getElem_cons_zero, List.getElem_cons_succ, Act.put, List.setIfInBounds_toArray, List.set_cons_zero, List.set_cons_succ]
        refine wpAnyH_ready (rs := [1, 4]) (by kernel_rfl) (by simp) ?_
        refine AllReadyH.cons (o := _) rfl (fun K hK => ?_) (AllReadyH.cons (o := _) rfl (fun K hK => ?_) AllReadyH.nil)
        · rw [if_pos (by kernel_rfl)]
          go_simp
          (go_at_call 11; (with_reducible refine (D4.out _ (HX2.out.keep KC).b.at_).mono ?_); rintro e z4 ⟨P4, N4, co4, cn4, cc4, oo4, on4, oc4, cs4, os4, rfl, HC4, q⟩)
          have HN4 : Hid (y5.heap.size ≤ z4.heap.size) := Lib.hid q.out.size
          have Q1 := Lib.hid (q.out)
          have KC := KC.trans (q.out.mono KC.size)
          clear q
          first | refine hK.out _ _ ?_ (fun hHeld => ?_) | (go_wp2_with fail; refine hK.out _ _ ?_ (fun hHeld => ?_))
          · exact HKS.out _ KC
          clear hK K
          try simp only [List.getElem_toArray, List.getElem_cons_zero, List.getElem_cons_succ, Act.put, List.setIfInBounds_toArray, List.set_cons_zero, List.set_cons_succ]
          refine wpAnyH_ready (rs := [3, 4]) (by kernel_rfl) (by simp) ?_
          refine AllReadyH.cons (o := _) rfl (fun K hK => ?_) (AllReadyH.cons (o := _) rfl (fun K hK => ?_) AllReadyH.nil)
          · rw [if_pos (by kernel_rfl)]
            go_simp
            (go_at_call 12; (with_reducible refine (D5.out _ (HX2.out.keep KC).a.at_).mono ?_); rintro e z5 ⟨P5, N5, co5, cn5, cc5, oo5, on5, oc5, cs5, os5, rfl, HC5, q⟩)
            have HN5 : Hid (z4.heap.size ≤ z5.heap.size) := Lib.hid q.out.size
            have Q2 := Lib.hid (q.out)
            have KC := KC.trans (q.out.mono KC.size)
            clear q
            first | refine hK.out _ _ ?_ (fun hHeld => ?_) | (go_wp2_with fail; refine hK.out _ _ ?_ (fun hHeld => ?_))
            · exact HKS.out _ KC
            clear hK K
            try simp only [List.getElem_toArray, List.getElem_cons_zero, List.getElem_cons_succ, Act.put, List.setIfInBounds_toArray, List.set_cons_zero, List.set_cons_succ]
            refine wpAnyH_ready (rs := [4]) (by kernel_rfl) (by simp) ?_
            refine AllReadyH.cons (o := _) rfl (fun K hK => ?_) AllReadyH.nil
            rw [if_pos (by kernel_rfl)]
            go_simp
            obtain ⟨y4, hz⟩ : ∃ z, z5.alloc (.cells #[.int .i64 0, .int .i64 0, .slice none 0 0, .slice none 0 0] 25) = z := ⟨_, rfl⟩
            obtain ⟨b4, hbb⟩ : ∃ q, z5.heap.size = q := ⟨_, rfl⟩
            have HB4 : Hid (z5.heap.size = b4 ∧ y4.heap.size = b4 + 1 ∧ y4.heap[b4]? = some (.cells #[.int .i64 0, .int .i64 0, .slice none 0 0, .slice none 0 0] 25 (0, 0))) := Lib.hid ⟨hbb, by rw [← hz, ← hbb]; simp, by rw [← hz, ← hbb, new_al]⟩
            have Q3 : Hid (Below z5.heap.size z5 y4) := Lib.hid (by rw [← hz]; exact (Below.refl _ z5).alloc (Nat.le_refl _) _)
            have KC := KC.trans (Q3.out.mono KC.size)
            rw [hz, hbb]
            clear hz hbb
            first | refine hK.out _ _ ?_ (fun hHeld => ?_) | (go_wp2_with fail; refine hK.out _ _ ?_ (fun hHeld => ?_))
            · exact HKS.out _ KC
            clear hK K
            try simp only [List.getElem_toArray, List.getElem_cons_zero, List.getElem_cons_succ, Act.put, List.setIfInBounds_toArray, List.set_cons_zero, List.set_cons_succ]
            have hb4 := HB4.out
            have hb5 := HB5.out
            have n1 : y5.heap.size ≤ z4.heap.size := Q1.out.size
            have n2 : z4.heap.size ≤ z5.heap.size := Q2.out.size
            have hne : b4 ≠ b5 := by omega
            have hl4 : v2.heap.size ≤ b4 := by have := HV3.out.size; omega
            have hl5 : v2.heap.size ≤ b5 := by have := HV3.out.size; omega
            have h4 : y4.heap[b4]? = some (.cells #[.int .i64 0, .int .i64 0, .slice none 0 0, .slice none 0 0] 25 (0, 0)) := hb4.2.2
            have h5 : y4.heap[b5]? = some (.cells #[.int .i64 0, .int .i64 0, .slice none 0 0, .slice none 0 0] 25 (0, 0)) := (Q3.out.block b5 (by omega)).trans ((Q2.out.block b5 (by omega)).trans ((Q1.out.block b5 (by omega)).trans (hb5.2.2)))
            have e4 : ∀ q, q < z4.heap.size → y4.heap[q]? = z4.heap[q]? := fun q hq => (Q3.out.block q (by omega)).trans ((Q2.out.block q (by omega)).trans (rfl))
            have s4 : z4.heap.size ≤ y4.heap.size := by omega
            have e5 : ∀ q, q < z5.heap.size → y4.heap[q]? = z5.heap[q]? := fun q hq => (Q3.out.block q (by omega)).trans (rfl)
            have s5 : z5.heap.size ≤ y4.heap.size := by omega
            have HF2 := Lib.hid (HX2.out)
            have HEND : Hid (∀ wE : World, wE = (((((((y4.setCell ⟨b4, 0, none⟩ (.int .i64 P4)).setCell ⟨b4, 1, none⟩ (.int .i64 N4)).setCell ⟨b4, 2, none⟩ (.slice co4 cn4 cc4)).setCell ⟨b4, 3, none⟩ (.slice oo4 on4 oc4)).setCell ⟨b5, 0, none⟩ (.int .i64 P5)).setCell ⟨b5, 1, none⟩ (.int .i64 N5)).setCell ⟨b5, 2, none⟩ (.slice co5 cn5 cc5)).setCell ⟨b5, 3, none⟩ (.slice oo5 on5 oc5) → ∃ Gc Gd : Fv, IsCan ⟨P1, N1, co1, cn1, cc1, oo1, on1, oc1, cs1, os1⟩ Gc ∧ IsCan ⟨P1, N1, co1, cn1, cc1, oo1, on1, oc1, cs1, os1⟩ Gd ∧ Quad w wE b b2 b4 b5 ⟨P1, N1, co1, cn1, cc1, oo1, on1, oc1, cs1, os1⟩ ⟨P1, N1, co2, cn1, cc2, oo2, on1, oc2, cs1, os1⟩ Gc Gd) := Lib.hid (fun wE hE => by
            obtain ⟨t1, t2, t3, t4⟩ := two_end h4 h5 hne hE
            have bE := KC.trans (t4 _ hl4 hl5 KC.size)
            have p := HF2.out.keep bE
            refine ⟨⟨P4, N4, co4, cn4, cc4, oo4, on4, oc4, cs4, os4⟩, ⟨P5, N5, co5, cn5, cc5, oo5, on5, oc5, cs5, os5⟩, HC4.out.1, HC5.out.1, p.a, p.b, fbox_at (ownF_between HC4.out.2 (fun q q1 q2 => (t3 q (by omega) (by omega) (by omega)).trans (e4 q q2))).at_ t1 p.a.bw, fbox_at (ownF_between HC5.out.2 (fun q q1 q2 => (t3 q (by omega) (by omega) (by omega)).trans (e5 q q2))).at_ t2 p.a.bw⟩)
            have f40 := block_free h4 0
            have f41 := block_free h4 1
            have f42 := block_free h4 2
            have f43 := block_free h4 3
            have f50 := block_free h5 0
            have f51 := block_free h5 1
            have f52 := block_free h5 2
            have f53 := block_free h5 3
            have g40 := cell_block h4 0
            have g41 := cell_block h4 1
            have g42 := cell_block h4 2
            have g43 := cell_block h4 3
            have g50 := cell_block h5 0
            have g51 := cell_block h5 1
            have g52 := cell_block h5 2
            have g53 := cell_block h5 3
            have hne2 : b5 ≠ b4 := fun z => hne z.symm
            have HKA := Lib.hid (KC.grown (grown_four y4 b4 (.int .i64 P4) (.int .i64 N4) (.slice co4 cn4 cc4) (.slice oo4 on4 oc4)) KC.size (fun q z => by cases z; exact hl4))
            have HKB := Lib.hid (HKA.out.grown (grown_four (((((y4).setCell ⟨b4, 0, none⟩ (.int .i64 P4)).setCell ⟨b4, 1, none⟩ (.int .i64 N4)).setCell ⟨b4, 2, none⟩ (.slice co4 cn4 cc4)).setCell ⟨b4, 3, none⟩ (.slice oo4 on4 oc4)) b5 (.int .i64 P5) (.int .i64 N5) (.slice co5 cn5 cc5) (.slice oo5 on5 oc5)) HKA.out.size (fun q z => by cases z; exact hl5))
            clear hb4 hb5 h4 h5 e4 e5 s4 s5 hl4 hl5 n1 n2
            refine wpAnyH_ready (rs := [6]) (by kernel_rfl) (by simp) ?_
            refine AllReadyH.cons (o := _) rfl (fun K hK => ?_) AllReadyH.nil
            rw [if_pos (by kernel_rfl)]
            go_simp
            first | refine hK.out _ _ ?_ (fun hHeld => ?_) | (go_wp2_with fail; refine hK.out _ _ ?_ (fun hHeld => ?_))
            · exact HKS.out _ HKA.out
            clear hK K
            try simp only [List.getElem_toArray, List.getElem_cons_zero, List.getElem_cons_succ, Act.put, List.setIfInBounds_toArray, List.set_cons_zero, List.set_cons_succ]
            refine wpAnyH_ready (rs := [7]) (by kernel_rfl) (by simp) ?_
            refine AllReadyH.cons (o := _) rfl (fun K hK => ?_) AllReadyH.nil
            rw [if_pos (by kernel_rfl)]
            go_simp
            first | refine hK.out _ _ ?_ (fun hHeld => ?_) | (go_wp2_with fail; refine hK.out _ _ ?_ (fun hHeld => ?_))
            · exact HKS.out _ HKB.out
            clear hK K
            try simp only [List.getElem_toArray, List.getElem_cons_zero, List.getElem_cons_succ, Act.put, List.setIfInBounds_toArray, List.set_cons_zero, List.set_cons_succ]
            refine wpAnyH_done (by kernel_rfl) ?_ _
            clear f40 f41 f42 f43 f50 f51 f52 f53 g40 g41 g42 g43 g50 g51 g52 g53 hHeld HKA HKB KC hne hne2
            go_wp2_with fail
            go_meet
            case rel => exact ⟨b4, b5, rfl, rfl, Lib.hid (HEND.out _ rfl)⟩
          · rw [if_pos (by kernel_rfl)]
            go_simp
            obtain ⟨y4, hz⟩ : ∃ z, z4.alloc (.cells #[.int .i64 0, .int .i64 0, .slice none 0 0, .slice none 0 0] 25) = z := ⟨_, rfl⟩
            obtain ⟨b4, hbb⟩ : ∃ q, z4.heap.size = q := ⟨_, rfl⟩
            have HB4 : Hid (z4.heap.size = b4 ∧ y4.heap.size = b4 + 1 ∧ y4.heap[b4]? = some (.cells #[.int .i64 0, .int .i64 0, .slice none 0 0, .slice none 0 0] 25 (0, 0))) := Lib.hid ⟨hbb, by rw [← hz, ← hbb]; simp, by rw [← hz, ← hbb, new_al]⟩
            have Q2 : Hid (Below z4.heap.size z4 y4) := Lib.hid (by rw [← hz]; exact (Below.refl _ z4).alloc (Nat.le_refl _) _)
            have KC := KC.trans (Q2.out.mono KC.size)
            rw [hz, hbb]
            clear hz hbb
            first | refine hK.out _ _ ?_ (fun hHeld => ?_) | (go_wp2_with fail; refine hK.out _ _ ?_ (fun hHeld => ?_))
            · exact HKS.out _ KC
            clear hK K
            try simp only [List.getElem_toArray, List.getElem_cons_zero, List.getElem_cons_succ, Act.put, List.setIfInBounds_toArray, List.set_cons_zero, List.set_cons_succ]
            refine wpAnyH_ready (rs := [3]) (by kernel_rfl) (by simp) ?_
            refine AllReadyH.cons (o := _) rfl (fun K hK => ?_) AllReadyH.nil
            rw [if_pos (by kernel_rfl)]
            go_simp
            (go_at_call 12; (with_reducible refine (D5.out _ (HX2.out.keep KC).a.at_).mono ?_); rintro e z5 ⟨P5, N5, co5, cn5, cc5, oo5, on5, oc5, cs5, os5, rfl, HC5, q⟩)
            have HN5 : Hid (y4.heap.size ≤ z5.heap.size) := Lib.hid q.out.size
            have Q3 := Lib.hid (q.out)
            have KC := KC.trans (q.out.mono KC.size)
            clear q
            first | refine hK.out _ _ ?_ (fun hHeld => ?_) | (go_wp2_with fail; refine hK.out _ _ ?_ (fun hHeld => ?_))
            · exact HKS.out _ KC
            clear hK K
            try simp only [List.getElem_toArray, List.getElem_cons_zero, List.getElem_cons_succ, Act.put, List.setIfInBounds_toArray, List.set_cons_zero, List.set_cons_succ]
            have hb4 := HB4.out
            have hb5 := HB5.out
            have n1 : y5.heap.size ≤ z4.heap.size := Q1.out.size
            have n3 : y4.heap.size ≤ z5.heap.size := Q3.out.size
            have hne : b4 ≠ b5 := by omega
            have hl4 : v2.heap.size ≤ b4 := by have := HV3.out.size; omega
            have hl5 : v2.heap.size ≤ b5 := by have := HV3.out.size; omega
            have h4 : z5.heap[b4]? = some (.cells #[.int .i64 0, .int .i64 0, .slice none 0 0, .slice none 0 0] 25 (0, 0)) := (Q3.out.block b4 (by omega)).trans (hb4.2.2)
            have h5 : z5.heap[b5]? = some (.cells #[.int .i64 0, .int .i64 0, .slice none 0 0, .slice none 0 0] 25 (0, 0)) := (Q3.out.block b5 (by omega)).trans ((Q2.out.block b5 (by omega)).trans ((Q1.out.block b5 (by omega)).trans (hb5.2.2)))
            have e4 : ∀ q, q < z4.heap.size → z5.heap[q]? = z4.heap[q]? := fun q hq => (Q3.out.block q (by omega)).trans ((Q2.out.block q (by omega)).trans (rfl))
            have s4 : z4.heap.size ≤ z5.heap.size := by omega
            have e5 : ∀ q, q < z5.heap.size → z5.heap[q]? = z5.heap[q]? := fun q hq => rfl
            have s5 : z5.heap.size ≤ z5.heap.size := by omega
            have HF2 := Lib.hid (HX2.out)
            have HEND : Hid (∀ wE : World, wE = (((((((z5.setCell ⟨b4, 0, none⟩ (.int .i64 P4)).setCell ⟨b4, 1, none⟩ (.int .i64 N4)).setCell ⟨b4, 2, none⟩ (.slice co4 cn4 cc4)).setCell ⟨b4, 3, none⟩ (.slice oo4 on4 oc4)).setCell ⟨b5, 0, none⟩ (.int .i64 P5)).setCell ⟨b5, 1, none⟩ (.int .i64 N5)).setCell ⟨b5, 2, none⟩ (.slice co5 cn5 cc5)).setCell ⟨b5, 3, none⟩ (.slice oo5 on5 oc5) → ∃ Gc Gd : Fv, IsCan ⟨P1, N1, co1, cn1, cc1, oo1, on1, oc1, cs1, os1⟩ Gc ∧ IsCan ⟨P1, N1, co1, cn1, cc1, oo1, on1, oc1, cs1, os1⟩ Gd ∧ Quad w wE b b2 b4 b5 ⟨P1, N1, co1, cn1, cc1, oo1, on1, oc1, cs1, os1⟩ ⟨P1, N1, co2, cn1, cc2, oo2, on1, oc2, cs1, os1⟩ Gc Gd) := Lib.hid (fun wE hE => by
            obtain ⟨t1, t2, t3, t4⟩ := two_end h4 h5 hne hE
            have bE := KC.trans (t4 _ hl4 hl5 KC.size)
            have p := HF2.out.keep bE
            refine ⟨⟨P4, N4, co4, cn4, cc4, oo4, on4, oc4, cs4, os4⟩, ⟨P5, N5, co5, cn5, cc5, oo5, on5, oc5, cs5, os5⟩, HC4.out.1, HC5.out.1, p.a, p.b, fbox_at (ownF_between HC4.out.2 (fun q q1 q2 => (t3 q (by omega) (by omega) (by omega)).trans (e4 q q2))).at_ t1 p.a.bw, fbox_at (ownF_between HC5.out.2 (fun q q1 q2 => (t3 q (by omega) (by omega) (by omega)).trans (e5 q q2))).at_ t2 p.a.bw⟩)
            have f40 := block_free h4 0
            have f41 := block_free h4 1
            have f42 := block_free h4 2
            have f43 := block_free h4 3
            have f50 := block_free h5 0
            have f51 := block_free h5 1
            have f52 := block_free h5 2
            have f53 := block_free h5 3
            have g40 := cell_block h4 0
            have g41 := cell_block h4 1
            have g42 := cell_block h4 2
            have g43 := cell_block h4 3
            have g50 := cell_block h5 0
            have g51 := cell_block h5 1
            have g52 := cell_block h5 2
            have g53 := cell_block h5 3
            have hne2 : b5 ≠ b4 := fun z => hne z.symm
            have HKA := Lib.hid (KC.grown (grown_four z5 b4 (.int .i64 P4) (.int .i64 N4) (.slice co4 cn4 cc4) (.slice oo4 on4 oc4)) KC.size (fun q z => by cases z; exact hl4))
            have HKB := Lib.hid (HKA.out.grown (grown_four (((((z5).setCell ⟨b4, 0, none⟩ (.int .i64 P4)).setCell ⟨b4, 1, none⟩ (.int .i64 N4)).setCell ⟨b4, 2, none⟩ (.slice co4 cn4 cc4)).setCell ⟨b4, 3, none⟩ (.slice oo4 on4 oc4)) b5 (.int .i64 P5) (.int .i64 N5) (.slice co5 cn5 cc5) (.slice oo5 on5 oc5)) HKA.out.size (fun q z => by cases z; exact hl5))
            clear hb4 hb5 h4 h5 e4 e5 s4 s5 hl4 hl5 n1 n3
            refine wpAnyH_ready (rs := [6]) (by kernel_rfl) (by simp) ?_
            refine AllReadyH.cons (o := _) rfl (fun K hK => ?_) AllReadyH.nil
            rw [if_pos (by kernel_rfl)]
            go_simp
            first | refine hK.out _ _ ?_ (fun hHeld => ?_) | (go_wp2_with fail; refine hK.out _ _ ?_ (fun hHeld => ?_))
            · exact HKS.out _ HKA.out
            clear hK K
            try simp only [List.getElem_toArray, List.getElem_cons_zero, List.getElem_cons_succ, Act.put, List.setIfInBounds_toArray, List.set_cons_zero, List.set_cons_succ]
            refine wpAnyH_ready (rs := [7]) (by kernel_rfl) (by simp) ?_
            refine AllReadyH.cons (o := _) rfl (fun K hK => ?_) AllReadyH.nil
            rw [if_pos (by kernel_rfl)]
            go_simp
            first | refine hK.out _ _ ?_ (fun hHeld => ?_) | (go_wp2_with fail; refine hK.out _ _ ?_ (fun hHeld => ?_))
            · exact HKS.out _ HKB.out
            clear hK K
            try simp only [List.getElem_toArray, List.getElem_cons_zero, List.getElem_cons_succ, Act.put, List.setIfInBounds_toArray, List.set_cons_zero, List.set_cons_succ]
            refine wpAnyH_done (by kernel_rfl) ?_ _
            clear f40 f41 f42 f43 f50 f51 f52 f53 g40 g41 g42 g43 g50 g51 g52 g53 hHeld HKA HKB KC hne hne2
            go_wp2_with fail
            go_meet
            case rel => exact ⟨b4, b5, rfl, rfl, Lib.hid (HEND.out _ rfl)⟩
        · rw [if_pos (by kernel_rfl)]
          go_simp
          obtain ⟨y4, hz⟩ : ∃ z, y5.alloc (.cells #[.int .i64 0, .int .i64 0, .slice none 0 0, .slice none 0 0] 25) = z := ⟨_, rfl⟩
          obtain ⟨b4, hbb⟩ : ∃ q, y5.heap.size = q := ⟨_, rfl⟩
          have HB4 : Hid (y5.heap.size = b4 ∧ y4.heap.size = b4 + 1 ∧ y4.heap[b4]? = some (.cells #[.int .i64 0, .int .i64 0, .slice none 0 0, .slice none 0 0] 25 (0, 0))) := Lib.hid ⟨hbb, by rw [← hz, ← hbb]; simp, by rw [← hz, ← hbb, new_al]⟩
          have Q1 : Hid (Below y5.heap.size y5 y4) := Lib.hid (by rw [← hz]; exact (Below.refl _ y5).alloc (Nat.le_refl _) _)
          have KC := KC.trans (Q1.out.mono KC.size)
          rw [hz, hbb]
          clear hz hbb
          first | refine hK.out _ _ ?_ (fun hHeld => ?_) | (go_wp2_with fail; refine hK.out _ _ ?_ (fun hHeld => ?_))
          · exact HKS.out _ KC
          clear hK K
          try simp only [List.getElem_toArray, List.getElem_cons_zero, List.getElem_cons_succ, Act.put, List.setIfInBounds_toArray, List.set_cons_zero, List.set_cons_succ]
          refine wpAnyH_ready (rs := [1]) (by kernel_rfl) (by simp) ?_
          refine AllReadyH.cons (o := _) rfl (fun K hK => ?_) AllReadyH.nil
          rw [if_pos (by kernel_rfl)]
          go_simp
          (go_at_call 11; (with_reducible refine (D4.out _ (HX2.out.keep KC).b.at_).mono ?_); rintro e z4 ⟨P4, N4, co4, cn4, cc4, oo4, on4, oc4, cs4, os4, rfl, HC4, q⟩)
          have HN4 : Hid (y4.heap.size ≤ z4.heap.size) := Lib.hid q.out.size
          have Q2 := Lib.hid (q.out)
          have KC := KC.trans (q.out.mono KC.size)
          clear q
          first | refine hK.out _ _ ?_ (fun hHeld => ?_) | (go_wp2_with fail; refine hK.out _ _ ?_ (fun hHeld => ?_))
          · exact HKS.out _ KC
          clear hK K
          try simp only [List.getElem_toArray, List.getElem_cons_zero, List.getElem_cons_succ, Act.put, List.setIfInBounds_toArray, List.set_cons_zero, List.set_cons_succ]
          refine wpAnyH_ready (rs := [3]) (by kernel_rfl) (by simp) ?_
          refine AllReadyH.cons (o := _) rfl (fun K hK => ?_) AllReadyH.nil
          rw [if_pos (by kernel_rfl)]
          go_simp
          (go_at_call 12; (with_reducible refine (D5.out _ (HX2.out.keep KC).a.at_).mono ?_); rintro e z5 ⟨P5, N5, co5, cn5, cc5, oo5, on5, oc5, cs5, os5, rfl, HC5, q⟩)
          have HN5 : Hid (z4.heap.size ≤ z5.heap.size) := Lib.hid q.out.size
          have Q3 := Lib.hid (q.out)
          have KC := KC.trans (q.out.mono KC.size)
          clear q
          first | refine hK.out _ _ ?_ (fun hHeld => ?_) | (go_wp2_with fail; refine hK.out _ _ ?_ (fun hHeld => ?_))
          · exact HKS.out _ KC
          clear hK K
          try simp only [List.getElem_toArray, List.getElem_cons_zero, List.getElem_cons_succ, Act.put, List.setIfInBounds_toArray, List.set_cons_zero, List.set_cons_succ]
          have hb4 := HB4.out
          have hb5 := HB5.out
          have n2 : y4.heap.size ≤ z4.heap.size := Q2.out.size
          have n3 : z4.heap.size ≤ z5.heap.size := Q3.out.size
          have hne : b4 ≠ b5 := by omega
          have hl4 : v2.heap.size ≤ b4 := by have := HV3.out.size; omega
          have hl5 : v2.heap.size ≤ b5 := by have := HV3.out.size; omega
          have h4 : z5.heap[b4]? = some (.cells #[.int .i64 0, .int .i64 0, .slice none 0 0, .slice none 0 0] 25 (0, 0)) := (Q3.out.block b4 (by omega)).trans ((Q2.out.block b4 (by omega)).trans (hb4.2.2))
          have h5 : z5.heap[b5]? = some (.cells #[.int .i64 0, .int .i64 0, .slice none 0 0, .slice none 0 0] 25 (0, 0)) := (Q3.out.block b5 (by omega)).trans ((Q2.out.block b5 (by omega)).trans ((Q1.out.block b5 (by omega)).trans (hb5.2.2)))
          have e4 : ∀ q, q < z4.heap.size → z5.heap[q]? = z4.heap[q]? := fun q hq => (Q3.out.block q (by omega)).trans (rfl)
          have s4 : z4.heap.size ≤ z5.heap.size := by omega
          have e5 : ∀ q, q < z5.heap.size → z5.heap[q]? = z5.heap[q]? := fun q hq => rfl
          have s5 : z5.heap.size ≤ z5.heap.size := by omega
          have HF2 := Lib.hid (HX2.out)
          have HEND : Hid (∀ wE : World, wE = (((((((z5.setCell ⟨b4, 0, none⟩ (.int .i64 P4)).setCell ⟨b4, 1, none⟩ (.int .i64 N4)).setCell ⟨b4, 2, none⟩ (.slice co4 cn4 cc4)).setCell ⟨b4, 3, none⟩ (.slice oo4 on4 oc4)).setCell ⟨b5, 0, none⟩ (.int .i64 P5)).setCell ⟨b5, 1, none⟩ (.int .i64 N5)).setCell ⟨b5, 2, none⟩ (.slice co5 cn5 cc5)).setCell ⟨b5, 3, none⟩ (.slice oo5 on5 oc5) → ∃ Gc Gd : Fv, IsCan ⟨P1, N1, co1, cn1, cc1, oo1, on1, oc1, cs1, os1⟩ Gc ∧ IsCan ⟨P1, N1, co1, cn1, cc1, oo1, on1, oc1, cs1, os1⟩ Gd ∧ Quad w wE b b2 b4 b5 ⟨P1, N1, co1, cn1, cc1, oo1, on1, oc1, cs1, os1⟩ ⟨P1, N1, co2, cn1, cc2, oo2, on1, oc2, cs1, os1⟩ Gc Gd) := Lib.hid (fun wE hE => by
          obtain ⟨t1, t2, t3, t4⟩ := two_end h4 h5 hne hE
          have bE := KC.trans (t4 _ hl4 hl5 KC.size)
          have p := HF2.out.keep bE
          refine ⟨⟨P4, N4, co4, cn4, cc4, oo4, on4, oc4, cs4, os4⟩, ⟨P5, N5, co5, cn5, cc5, oo5, on5, oc5, cs5, os5⟩, HC4.out.1, HC5.out.1, p.a, p.b, fbox_at (ownF_between HC4.out.2 (fun q q1 q2 => (t3 q (by omega) (by omega) (by omega)).trans (e4 q q2))).at_ t1 p.a.bw, fbox_at (ownF_between HC5.out.2 (fun q q1 q2 => (t3 q (by omega) (by omega) (by omega)).trans (e5 q q2))).at_ t2 p.a.bw⟩)
          have f40 := block_free h4 0
          have f41 := block_free h4 1
          have f42 := block_free h4 2
          have f43 := block_free h4 3
          have f50 := block_free h5 0
          have f51 := block_free h5 1
          have f52 := block_free h5 2
          have f53 := block_free h5 3
          have g40 := cell_block h4 0
          have g41 := cell_block h4 1
          have g42 := cell_block h4 2
          have g43 := cell_block h4 3
          have g50 := cell_block h5 0
          have g51 := cell_block h5 1
          have g52 := cell_block h5 2
          have g53 := cell_block h5 3
          have hne2 : b5 ≠ b4 := fun z => hne z.symm
          have HKA := Lib.hid (KC.grown (grown_four z5 b4 (.int .i64 P4) (.int .i64 N4) (.slice co4 cn4 cc4) (.slice oo4 on4 oc4)) KC.size (fun q z => by cases z; exact hl4))
          have HKB := Lib.hid (HKA.out.grown (grown_four (((((z5).setCell ⟨b4, 0, none⟩ (.int .i64 P4)).setCell ⟨b4, 1, none⟩ (.int .i64 N4)).setCell ⟨b4, 2, none⟩ (.slice co4 cn4 cc4)).setCell ⟨b4, 3, none⟩ (.slice oo4 on4 oc4)) b5 (.int .i64 P5) (.int .i64 N5) (.slice co5 cn5 cc5) (.slice oo5 on5 oc5)) HKA.out.size (fun q z => by cases z; exact hl5))
          clear hb4 hb5 h4 h5 e4 e5 s4 s5 hl4 hl5 n2 n3
          refine wpAnyH_ready (rs := [6]) (by kernel_rfl) (by simp) ?_
          refine AllReadyH.cons (o := _) rfl (fun K hK => ?_) AllReadyH.nil
          rw [if_pos (by kernel_rfl)]
          go_simp
          first | refine hK.out _ _ ?_ (fun hHeld => ?_) | (go_wp2_with fail; refine hK.out _ _ ?_ (fun hHeld => ?_))
          · exact HKS.out _ HKA.out
          clear hK K
          try simp only [List.getElem_toArray, List.getElem_cons_zero, List.getElem_cons_succ, Act.put, List.setIfInBounds_toArray, List.set_cons_zero, List.set_cons_succ]
          refine wpAnyH_ready (rs := [7]) (by kernel_rfl) (by simp) ?_
          refine AllReadyH.cons (o := _) rfl (fun K hK => ?_) AllReadyH.nil
          rw [if_pos (by kernel_rfl)]
          go_simp
          first | refine hK.out _ _ ?_ (fun hHeld => ?_) | (go_wp2_with fail; refine hK.out _ _ ?_ (fun hHeld => ?_))
          · exact HKS.out _ HKB.out
          clear hK K
          try simp only [List.getElem_toArray, List.getElem_cons_zero, List.getElem_cons_succ, Act.put, List.setIfInBounds_toArray, List.set_cons_zero, List.set_cons_succ]
          refine wpAnyH_done (by kernel_rfl) ?_ _
          clear f40 f41 f42 f43 f50 f51 f52 f53 g40 g41 g42 g43 g50 g51 g52 g53 hHeld HKA HKB KC hne hne2
          go_wp2_with fail
          go_meet
          case rel => exact ⟨b4, b5, rfl, rfl, Lib.hid (HEND.out _ rfl)⟩
    case rest =>
      obtain ⟨b4, b5, rfl, rfl, HQ⟩ := hcut
      obtain ⟨⟨P4, N4, co4, cn4, cc4, oo4, on4, oc4, cs4, os4⟩, ⟨P5, N5, co5, cn5, cc5, oo5, on5, oc5, cs5, os5⟩, hc4, hc5, hq⟩ := HQ.out
      have HC4 := Lib.hid hc4
      have HC5 := Lib.hid hc5
      have HX := Lib.hid hq
      clear hc4 hc5 hq HQ D4 D5 HX2
      obtain ⟨r, hr⟩ : ∃ r : Bool, r = true ↔ SameF ⟨P1, N1, co1, cn1, cc1, oo1, on1, oc1, cs1, os1⟩ ⟨P5, N5, co5, cn5, cc5, oo5, on5, oc5, cs5, os5⟩ := by classical exact ⟨decide _, decide_eq_true_iff⟩
      have I2 : Hid (∀ W, Fv.At ⟨P1, N1, co2, cn1, cc2, oo2, on1, oc2, cs1, os1⟩ W → Calls Try.prog 14 #[.agg #[.int .i64 P1, .int .i64 N1, .slice co2 cn1 cc2, .slice oo2 on1 oc2]] W fun e w' => e = .returned (.bool r) ∧ Below W.heap.size W w') := Lib.hid (fun W h => is_ok ⟨P1, N1, co2, cn1, cc2, oo2, on1, oc2, cs1, os1⟩ HSG.out.mid HRG.out W h r (hr.trans (is_same HC5.out HSR1.out.2 LC1.out)))
      have AL1 : Hid (∀ W, Fv.At ⟨P4, N4, co4, cn4, cc4, oo4, on4, oc4, cs4, os4⟩ W → Fv.At ⟨P5, N5, co5, cn5, cc5, oo5, on5, oc5, cs5, os5⟩ W → Calls Try.prog 13 #[.agg #[.int .i64 P4, .int .i64 N4, .slice co4 cn4 cc4, .slice oo4 on4 oc4], .agg #[.int .i64 P5, .int .i64 N5, .slice co5 cn5 cc5, .slice oo5 on5 oc5]] W fun e w' => e = .returned (.bool true) ∧ Below W.heap.size W w') := Lib.hid (fun W h k => alikeForms_any ⟨P4, N4, co4, cn4, cc4, oo4, on4, oc4, cs4, os4⟩ ⟨P5, N5, co5, cn5, cc5, oo5, on5, oc5, cs5, os5⟩ W h k true ⟨fun _ => isCan_unique HC4.out HC5.out, fun _ => rfl⟩)
      have AL2 : Hid (∀ W, Fv.At ⟨P1, N1, co1, cn1, cc1, oo1, on1, oc1, cs1, os1⟩ W → Fv.At ⟨P5, N5, co5, cn5, cc5, oo5, on5, oc5, cs5, os5⟩ W → Calls Try.prog 13 #[.agg #[.int .i64 P1, .int .i64 N1, .slice co1 cn1 cc1, .slice oo1 on1 oc1], .agg #[.int .i64 P5, .int .i64 N5, .slice co5 cn5 cc5, .slice oo5 on5 oc5]] W fun e w' => e = .returned (.bool r) ∧ Below W.heap.size W w') := Lib.hid (fun W h k => alikeForms_any ⟨P1, N1, co1, cn1, cc1, oo1, on1, oc1, cs1, os1⟩ ⟨P5, N5, co5, cn5, cc5, oo5, on5, oc5, cs5, os5⟩ W h k r hr)
      have AL3 : Hid (∀ W, Fv.At ⟨P1, N1, co2, cn1, cc2, oo2, on1, oc2, cs1, os1⟩ W → Fv.At ⟨P1, N1, co1, cn1, cc1, oo1, on1, oc1, cs1, os1⟩ W → Calls Try.prog 13 #[.agg #[.int .i64 P1, .int .i64 N1, .slice co2 cn1 cc2, .slice oo2 on1 oc2], .agg #[.int .i64 P1, .int .i64 N1, .slice co1 cn1 cc1, .slice oo1 on1 oc1]] W fun e w' => e = .returned (.bool true) ∧ Below W.heap.size W w') := Lib.hid (fun W h k => alikeForms_any ⟨P1, N1, co2, cn1, cc2, oo2, on1, oc2, cs1, os1⟩ ⟨P1, N1, co1, cn1, cc1, oo1, on1, oc1, cs1, os1⟩ W h k true ⟨fun _ => ⟨rfl, rfl, rfl, rfl⟩, fun _ => rfl⟩)
      clear hr
      go_upto_region 5 with fail
      clear HRG HSG HSR1 HC4 HC5 LC1
      cases r
      · skip
        have HS : Hid (∀ W, Quad w W b b2 b4 b5 ⟨P1, N1, co1, cn1, cc1, oo1, on1, oc1, cs1, os1⟩ ⟨P1, N1, co2, cn1, cc2, oo2, on1, oc2, cs1, os1⟩ ⟨P4, N4, co4, cn4, cc4, oo4, on4, oc4, cs4, os4⟩ ⟨P5, N5, co5, cn5, cc5, oo5, on5, oc5, cs5, os5⟩ → W.cell? ⟨b, 0, none⟩ = some (.int .i64 P1) ∧ W.cell? ⟨b, 1, none⟩ = some (.int .i64 N1) ∧ W.cell? ⟨b, 2, none⟩ = some (.slice co1 cn1 cc1) ∧ W.cell? ⟨b, 3, none⟩ = some (.slice oo1 on1 oc1) ∧ W.cell? ⟨b2, 0, none⟩ = some (.int .i64 P1) ∧ W.cell? ⟨b2, 1, none⟩ = some (.int .i64 N1) ∧ W.cell? ⟨b2, 2, none⟩ = some (.slice co2 cn1 cc2) ∧ W.cell? ⟨b2, 3, none⟩ = some (.slice oo2 on1 oc2) ∧ W.cell? ⟨b4, 0, none⟩ = some (.int .i64 P4) ∧ W.cell? ⟨b4, 1, none⟩ = some (.int .i64 N4) ∧ W.cell? ⟨b4, 2, none⟩ = some (.slice co4 cn4 cc4) ∧ W.cell? ⟨b4, 3, none⟩ = some (.slice oo4 on4 oc4) ∧ W.cell? ⟨b5, 0, none⟩ = some (.int .i64 P5) ∧ W.cell? ⟨b5, 1, none⟩ = some (.int .i64 N5) ∧ W.cell? ⟨b5, 2, none⟩ = some (.slice co5 cn5 cc5) ∧ W.cell? ⟨b5, 3, none⟩ = some (.slice oo5 on5 oc5) ∧ Hid (Quad w W b b2 b4 b5 ⟨P1, N1, co1, cn1, cc1, oo1, on1, oc1, cs1, os1⟩ ⟨P1, N1, co2, cn1, cc2, oo2, on1, oc2, cs1, os1⟩ ⟨P4, N4, co4, cn4, cc4, oo4, on4, oc4, cs4, os4⟩ ⟨P5, N5, co5, cn5, cc5, oo5, on5, oc5, cs5, os5⟩)) := Lib.hid (fun W h => ⟨h.a.c0, h.a.c1, h.a.c2, h.a.c3, h.b.c0, h.b.c1, h.b.c2, h.b.c3, h.c.c0, h.c.c1, h.c.c2, h.c.c3, h.d.c0, h.d.c1, h.d.c2, h.d.c3, Lib.hid h⟩)
        refine wp_region_held_drew (S := (fun W => W.cell? ⟨b, 0, none⟩ = some (.int .i64 P1) ∧ W.cell? ⟨b, 1, none⟩ = some (.int .i64 N1) ∧ W.cell? ⟨b, 2, none⟩ = some (.slice co1 cn1 cc1) ∧ W.cell? ⟨b, 3, none⟩ = some (.slice oo1 on1 oc1) ∧ W.cell? ⟨b2, 0, none⟩ = some (.int .i64 P1) ∧ W.cell? ⟨b2, 1, none⟩ = some (.int .i64 N1) ∧ W.cell? ⟨b2, 2, none⟩ = some (.slice co2 cn1 cc2) ∧ W.cell? ⟨b2, 3, none⟩ = some (.slice oo2 on1 oc2) ∧ W.cell? ⟨b4, 0, none⟩ = some (.int .i64 P4) ∧ W.cell? ⟨b4, 1, none⟩ = some (.int .i64 N4) ∧ W.cell? ⟨b4, 2, none⟩ = some (.slice co4 cn4 cc4) ∧ W.cell? ⟨b4, 3, none⟩ = some (.slice oo4 on4 oc4) ∧ W.cell? ⟨b5, 0, none⟩ = some (.int .i64 P5) ∧ W.cell? ⟨b5, 1, none⟩ = some (.int .i64 N5) ∧ W.cell? ⟨b5, 2, none⟩ = some (.slice co5 cn5 cc5) ∧ W.cell? ⟨b5, 3, none⟩ = some (.slice oo5 on5 oc5) ∧ Hid (Quad w W b b2 b4 b5 ⟨P1, N1, co1, cn1, cc1, oo1, on1, oc1, cs1, os1⟩ ⟨P1, N1, co2, cn1, cc2, oo2, on1, oc2, cs1, os1⟩ ⟨P4, N4, co4, cn4, cc4, oo4, on4, oc4, cs4, os4⟩ ⟨P5, N5, co5, cn5, cc5, oo5, on5, oc5, cs5, os5⟩))) (by kernel_rfl) ?_ (fun hHeld => ?_)
        · exact HS.out _ (HX.out.keep (Below.refl _ _).drew)
        refine wpAnyH_take (i := 0) (oi := _) (v := ?_) rfl (by kernel_rfl) (by kernel_rfl) (by kernel_rfl) (fun _ _ _ h => h) (Or.inl ⟨by kernel_rfl, ?_⟩) (by assumption) ?_
        rotate_left 1
        focus (intro wq hSw; (try dsimp only at hSw); obtain ⟨s0, s1, s2, s3, s4, s5, s6, s7, s8, s9, s10, s11, s12, s13, s14, s15, s16⟩ := hSw; go_simp; (try with_reducible rfl); done)
        try simp only [List.getElem_toArray, List.getElem_cons_zero, List.getElem_cons_succ, Act.put, List.setIfInBounds_toArray, List.set_cons_zero, List.set_cons_succ]
        refine wpAnyH_take (i := 1) (oi := _) (v := ?_) rfl (by kernel_rfl) (by kernel_rfl) (by kernel_rfl) (fun _ _ _ h => h) (Or.inl ⟨by kernel_rfl, ?_⟩) (by assumption) ?_
        rotate_left 1
        focus (intro wq hSw; (try dsimp only at hSw); obtain ⟨s0, s1, s2, s3, s4, s5, s6, s7, s8, s9, s10, s11, s12, s13, s14, s15, s16⟩ := hSw; go_simp; (try with_reducible rfl); done)
        try simp only [List.getElem_toArray, List.getElem_cons_zero, List.getElem_cons_succ, Act.put, List.setIfInBounds_toArray, List.set_cons_zero, List.set_cons_succ]
        refine wpAnyH_ready (rs := [2]) (by kernel_rfl) (by simp) ?_
        refine AllReadyH.cons (o := _) rfl (fun K hK => ?_) AllReadyH.nil
        rw [if_pos (by kernel_rfl)]
        go_simp
        (go_at_call 13; (with_reducible refine (AL1.out _ hHeld.2.2.2.2.2.2.2.2.2.2.2.2.2.2.2.2.out.c.at_ hHeld.2.2.2.2.2.2.2.2.2.2.2.2.2.2.2.2.out.d.at_).mono ?_); rintro e z1 ⟨rfl, q⟩)
        first | refine hK.out _ _ ?_ (fun hHeld => ?_) | (go_wp2_with fail; refine hK.out _ _ ?_ (fun hHeld => ?_))
        · exact HS.out _ (hHeld.2.2.2.2.2.2.2.2.2.2.2.2.2.2.2.2.out.keep q)
        clear hK K
        try simp only [List.getElem_toArray, List.getElem_cons_zero, List.getElem_cons_succ, Act.put, List.setIfInBounds_toArray, List.set_cons_zero, List.set_cons_succ]
        refine wpAnyH_take (i := 3) (oi := _) (v := ?_) rfl (by kernel_rfl) (by kernel_rfl) (by kernel_rfl) (fun _ _ _ h => h) (Or.inl ⟨by kernel_rfl, ?_⟩) (by assumption) ?_
        rotate_left 1
        focus (intro wq hSw; (try dsimp only at hSw); obtain ⟨s0, s1, s2, s3, s4, s5, s6, s7, s8, s9, s10, s11, s12, s13, s14, s15, s16⟩ := hSw; go_simp; (try with_reducible rfl); done)
        try simp only [List.getElem_toArray, List.getElem_cons_zero, List.getElem_cons_succ, Act.put, List.setIfInBounds_toArray, List.set_cons_zero, List.set_cons_succ]
        refine wpAnyH_take (i := 4) (oi := _) (v := ?_) rfl (by kernel_rfl) (by kernel_rfl) (by kernel_rfl) (fun _ _ _ h => h) (Or.inl ⟨by kernel_rfl, ?_⟩) (by assumption) ?_
        rotate_left 1
        focus (intro wq hSw; (try dsimp only at hSw); obtain ⟨s0, s1, s2, s3, s4, s5, s6, s7, s8, s9, s10, s11, s12, s13, s14, s15, s16⟩ := hSw; go_simp; (try with_reducible rfl); done)
        try simp only [List.getElem_toArray, List.getElem_cons_zero, List.getElem_cons_succ, Act.put, List.setIfInBounds_toArray, List.set_cons_zero, List.set_cons_succ]
        refine wpAnyH_take (i := 6) (oi := _) (v := ?_) rfl (by kernel_rfl) (by kernel_rfl) (by kernel_rfl) (fun _ _ _ h => h) (Or.inl ⟨by kernel_rfl, ?_⟩) (by assumption) ?_
        rotate_left 1
        focus (intro wq hSw; (try dsimp only at hSw); obtain ⟨s0, s1, s2, s3, s4, s5, s6, s7, s8, s9, s10, s11, s12, s13, s14, s15, s16⟩ := hSw; go_simp; (try with_reducible rfl); done)
        try simp only [List.getElem_toArray, List.getElem_cons_zero, List.getElem_cons_succ, Act.put, List.setIfInBounds_toArray, List.set_cons_zero, List.set_cons_succ]
        refine wpAnyH_take (i := 7) (oi := _) (v := ?_) rfl (by kernel_rfl) (by kernel_rfl) (by kernel_rfl) (fun _ _ _ h => h) (Or.inl ⟨by kernel_rfl, ?_⟩) (by assumption) ?_
        rotate_left 1
        focus (intro wq hSw; (try dsimp only at hSw); obtain ⟨s0, s1, s2, s3, s4, s5, s6, s7, s8, s9, s10, s11, s12, s13, s14, s15, s16⟩ := hSw; go_simp; (try with_reducible rfl); done)
        try simp only [List.getElem_toArray, List.getElem_cons_zero, List.getElem_cons_succ, Act.put, List.setIfInBounds_toArray, List.set_cons_zero, List.set_cons_succ]
        refine wpAnyH_ready (rs := [5]) (by kernel_rfl) (by simp) ?_
        refine AllReadyH.cons (o := _) rfl (fun K hK => ?_) AllReadyH.nil
        rw [if_pos (by kernel_rfl)]
        go_simp
        (go_at_call 14; (with_reducible refine (I2.out _ hHeld.2.2.2.2.2.2.2.2.2.2.2.2.2.2.2.2.out.b.at_).mono ?_); rintro e z2 ⟨rfl, q⟩)
        first | refine hK.out _ _ ?_ (fun hHeld => ?_) | (go_wp2_with fail; refine hK.out _ _ ?_ (fun hHeld => ?_))
        · exact HS.out _ (hHeld.2.2.2.2.2.2.2.2.2.2.2.2.2.2.2.2.out.keep q)
        clear hK K
        try simp only [List.getElem_toArray, List.getElem_cons_zero, List.getElem_cons_succ, Act.put, List.setIfInBounds_toArray, List.set_cons_zero, List.set_cons_succ]
        refine wpAnyH_ready (rs := [8]) (by kernel_rfl) (by simp) ?_
        refine AllReadyH.cons (o := _) rfl (fun K hK => ?_) AllReadyH.nil
        rw [if_pos (by kernel_rfl)]
        go_simp
        (go_at_call 13; (with_reducible refine (AL2.out _ hHeld.2.2.2.2.2.2.2.2.2.2.2.2.2.2.2.2.out.a.at_ hHeld.2.2.2.2.2.2.2.2.2.2.2.2.2.2.2.2.out.d.at_).mono ?_); rintro e z3 ⟨rfl, q⟩)
        first | refine hK.out _ _ ?_ (fun hHeld => ?_) | (go_wp2_with fail; refine hK.out _ _ ?_ (fun hHeld => ?_))
        · exact HS.out _ (hHeld.2.2.2.2.2.2.2.2.2.2.2.2.2.2.2.2.out.keep q)
        clear hK K
        try simp only [List.getElem_toArray, List.getElem_cons_zero, List.getElem_cons_succ, Act.put, List.setIfInBounds_toArray, List.set_cons_zero, List.set_cons_succ]
        refine wpAnyH_take (i := 9) (oi := _) (v := ?_) rfl (by kernel_rfl) (by kernel_rfl) (by kernel_rfl) (fun _ _ _ h => h) (Or.inl ⟨by kernel_rfl, ?_⟩) (by assumption) ?_
        rotate_left 1
        focus (intro wq hSw; (try dsimp only at hSw); obtain ⟨s0, s1, s2, s3, s4, s5, s6, s7, s8, s9, s10, s11, s12, s13, s14, s15, s16⟩ := hSw; go_simp; (try with_reducible rfl); done)
        try simp only [List.getElem_toArray, List.getElem_cons_zero, List.getElem_cons_succ, Act.put, List.setIfInBounds_toArray, List.set_cons_zero, List.set_cons_succ]
        refine wpAnyH_take (i := 10) (oi := _) (v := ?_) rfl (by kernel_rfl) (by kernel_rfl) (by kernel_rfl) (fun _ _ _ h => h) (Or.inl ⟨by kernel_rfl, ?_⟩) (by assumption) ?_
        rotate_left 1
        focus (intro wq hSw; (try dsimp only at hSw); obtain ⟨s0, s1, s2, s3, s4, s5, s6, s7, s8, s9, s10, s11, s12, s13, s14, s15, s16⟩ := hSw; go_simp; (try with_reducible rfl); done)
        try simp only [List.getElem_toArray, List.getElem_cons_zero, List.getElem_cons_succ, Act.put, List.setIfInBounds_toArray, List.set_cons_zero, List.set_cons_succ]
        refine wpAnyH_take (i := 11) (oi := _) (v := ?_) rfl (by kernel_rfl) (by kernel_rfl) (by kernel_rfl) (fun _ _ _ h => h) (Or.inl ⟨by kernel_rfl, ?_⟩) (by assumption) ?_
        rotate_left 1
        focus (intro wq hSw; (try dsimp only at hSw); obtain ⟨s0, s1, s2, s3, s4, s5, s6, s7, s8, s9, s10, s11, s12, s13, s14, s15, s16⟩ := hSw; go_simp; (try with_reducible rfl); done)
        try simp only [List.getElem_toArray, List.getElem_cons_zero, List.getElem_cons_succ, Act.put, List.setIfInBounds_toArray, List.set_cons_zero, List.set_cons_succ]
        refine wpAnyH_take (i := 12) (oi := _) (v := ?_) rfl (by kernel_rfl) (by kernel_rfl) (by kernel_rfl) (fun _ _ _ h => h) (Or.inl ⟨by kernel_rfl, ?_⟩) (by assumption) ?_
        rotate_left 1
        focus (intro wq hSw; (try dsimp only at hSw); obtain ⟨s0, s1, s2, s3, s4, s5, s6, s7, s8, s9, s10, s11, s12, s13, s14, s15, s16⟩ := hSw; go_simp; (try with_reducible rfl); done)
        try simp only [List.getElem_toArray, List.getElem_cons_zero, List.getElem_cons_succ, Act.put, List.setIfInBounds_toArray, List.set_cons_zero, List.set_cons_succ]
        refine wpAnyH_take (i := 13) (oi := _) (v := ?_) rfl (by kernel_rfl) (by kernel_rfl) (by kernel_rfl) (fun _ _ _ h => h) (Or.inl ⟨by kernel_rfl, ?_⟩) (by assumption) ?_
        rotate_left 1
        focus (intro wq hSw; (try dsimp only at hSw); obtain ⟨s0, s1, s2, s3, s4, s5, s6, s7, s8, s9, s10, s11, s12, s13, s14, s15, s16⟩ := hSw; go_simp; (try with_reducible rfl); done)
        try simp only [List.getElem_toArray, List.getElem_cons_zero, List.getElem_cons_succ, Act.put, List.setIfInBounds_toArray, List.set_cons_zero, List.set_cons_succ]
        refine wpAnyH_ready (rs := [14]) (by kernel_rfl) (by simp) ?_
        refine AllReadyH.cons (o := _) rfl (fun K hK => ?_) AllReadyH.nil
        rw [if_pos (by kernel_rfl)]
        go_simp
        (go_at_call 13; (with_reducible refine (AL3.out _ hHeld.2.2.2.2.2.2.2.2.2.2.2.2.2.2.2.2.out.b.at_ hHeld.2.2.2.2.2.2.2.2.2.2.2.2.2.2.2.2.out.a.at_).mono ?_); rintro e z4 ⟨rfl, q⟩)
        first | refine hK.out _ _ ?_ (fun hHeld => ?_) | (go_wp2_with fail; refine hK.out _ _ ?_ (fun hHeld => ?_))
        · exact HS.out _ (hHeld.2.2.2.2.2.2.2.2.2.2.2.2.2.2.2.2.out.keep q)
        clear hK K
        try simp only [List.getElem_toArray, List.getElem_cons_zero, List.getElem_cons_succ, Act.put, List.setIfInBounds_toArray, List.set_cons_zero, List.set_cons_succ]
        refine wpAnyH_take (i := 15) (oi := _) (v := ?_) rfl (by kernel_rfl) (by kernel_rfl) (by kernel_rfl) (fun _ _ _ h => h) (Or.inl ⟨by kernel_rfl, ?_⟩) (by assumption) ?_
        rotate_left 1
        focus (intro wq hSw; (try dsimp only at hSw); obtain ⟨s0, s1, s2, s3, s4, s5, s6, s7, s8, s9, s10, s11, s12, s13, s14, s15, s16⟩ := hSw; go_simp; (try with_reducible rfl); done)
        try simp only [List.getElem_toArray, List.getElem_cons_zero, List.getElem_cons_succ, Act.put, List.setIfInBounds_toArray, List.set_cons_zero, List.set_cons_succ]
        refine wpAnyH_take (i := 16) (oi := _) (v := ?_) rfl (by kernel_rfl) (by kernel_rfl) (by kernel_rfl) (fun _ _ _ h => h) (Or.inl ⟨by kernel_rfl, ?_⟩) (by assumption) ?_
        rotate_left 1
        focus (intro wq hSw; (try dsimp only at hSw); obtain ⟨s0, s1, s2, s3, s4, s5, s6, s7, s8, s9, s10, s11, s12, s13, s14, s15, s16⟩ := hSw; go_simp; (try with_reducible rfl); done)
        try simp only [List.getElem_toArray, List.getElem_cons_zero, List.getElem_cons_succ, Act.put, List.setIfInBounds_toArray, List.set_cons_zero, List.set_cons_succ]
        refine wpAnyH_ready (rs := [17]) (by kernel_rfl) (by simp) ?_
        refine AllReadyH.cons (o := _) rfl (fun K hK => ?_) AllReadyH.nil
        rw [if_pos (by kernel_rfl)]
        go_simp
        (go_at_call 9; (with_reducible refine (HAW.out _).mono ?_); rintro e z5 ⟨rfl, q⟩)
        first | refine hK.out _ _ ?_ (fun hHeld => ?_) | (go_wp2_with fail; refine hK.out _ _ ?_ (fun hHeld => ?_))
        · exact HS.out _ (hHeld.2.2.2.2.2.2.2.2.2.2.2.2.2.2.2.2.out.keep q)
        clear hK K
        try simp only [List.getElem_toArray, List.getElem_cons_zero, List.getElem_cons_succ, Act.put, List.setIfInBounds_toArray, List.set_cons_zero, List.set_cons_succ]
        refine wpAnyH_take (i := 18) (oi := _) (v := ?_) rfl (by kernel_rfl) (by kernel_rfl) (by kernel_rfl) (fun _ _ _ h => h) (Or.inl ⟨by kernel_rfl, ?_⟩) (by assumption) ?_
        rotate_left 1
        focus (intro wq hSw; (try dsimp only at hSw); obtain ⟨s0, s1, s2, s3, s4, s5, s6, s7, s8, s9, s10, s11, s12, s13, s14, s15, s16⟩ := hSw; go_simp; (try with_reducible rfl); done)
        try simp only [List.getElem_toArray, List.getElem_cons_zero, List.getElem_cons_succ, Act.put, List.setIfInBounds_toArray, List.set_cons_zero, List.set_cons_succ]
        refine wpAnyH_take (i := 19) (oi := _) (v := ?_) rfl (by kernel_rfl) (by kernel_rfl) (by kernel_rfl) (fun _ _ _ h => h) (Or.inl ⟨by kernel_rfl, ?_⟩) (by assumption) ?_
        rotate_left 1
        focus (intro wq hSw; (try dsimp only at hSw); obtain ⟨s0, s1, s2, s3, s4, s5, s6, s7, s8, s9, s10, s11, s12, s13, s14, s15, s16⟩ := hSw; go_simp; (try with_reducible rfl); done)
        try simp only [List.getElem_toArray, List.getElem_cons_zero, List.getElem_cons_succ, Act.put, List.setIfInBounds_toArray, List.set_cons_zero, List.set_cons_succ]
        refine wpAnyH_done (by kernel_rfl) ?_ _
        have HBW := Lib.hid hHeld.2.2.2.2.2.2.2.2.2.2.2.2.2.2.2.2.out.a.bw
        clear hHeld HS I2 AL1 AL2 AL3
        go_wp2
        go_returns
        exact ⟨rfl, HBW.out⟩
      · skip
        have HS : Hid (∀ W, Quad w W b b2 b4 b5 ⟨P1, N1, co1, cn1, cc1, oo1, on1, oc1, cs1, os1⟩ ⟨P1, N1, co2, cn1, cc2, oo2, on1, oc2, cs1, os1⟩ ⟨P4, N4, co4, cn4, cc4, oo4, on4, oc4, cs4, os4⟩ ⟨P5, N5, co5, cn5, cc5, oo5, on5, oc5, cs5, os5⟩ → W.cell? ⟨b, 0, none⟩ = some (.int .i64 P1) ∧ W.cell? ⟨b, 1, none⟩ = some (.int .i64 N1) ∧ W.cell? ⟨b, 2, none⟩ = some (.slice co1 cn1 cc1) ∧ W.cell? ⟨b, 3, none⟩ = some (.slice oo1 on1 oc1) ∧ W.cell? ⟨b2, 0, none⟩ = some (.int .i64 P1) ∧ W.cell? ⟨b2, 1, none⟩ = some (.int .i64 N1) ∧ W.cell? ⟨b2, 2, none⟩ = some (.slice co2 cn1 cc2) ∧ W.cell? ⟨b2, 3, none⟩ = some (.slice oo2 on1 oc2) ∧ W.cell? ⟨b4, 0, none⟩ = some (.int .i64 P4) ∧ W.cell? ⟨b4, 1, none⟩ = some (.int .i64 N4) ∧ W.cell? ⟨b4, 2, none⟩ = some (.slice co4 cn4 cc4) ∧ W.cell? ⟨b4, 3, none⟩ = some (.slice oo4 on4 oc4) ∧ W.cell? ⟨b5, 0, none⟩ = some (.int .i64 P5) ∧ W.cell? ⟨b5, 1, none⟩ = some (.int .i64 N5) ∧ W.cell? ⟨b5, 2, none⟩ = some (.slice co5 cn5 cc5) ∧ W.cell? ⟨b5, 3, none⟩ = some (.slice oo5 on5 oc5) ∧ Hid (Quad w W b b2 b4 b5 ⟨P1, N1, co1, cn1, cc1, oo1, on1, oc1, cs1, os1⟩ ⟨P1, N1, co2, cn1, cc2, oo2, on1, oc2, cs1, os1⟩ ⟨P4, N4, co4, cn4, cc4, oo4, on4, oc4, cs4, os4⟩ ⟨P5, N5, co5, cn5, cc5, oo5, on5, oc5, cs5, os5⟩)) := Lib.hid (fun W h => ⟨h.a.c0, h.a.c1, h.a.c2, h.a.c3, h.b.c0, h.b.c1, h.b.c2, h.b.c3, h.c.c0, h.c.c1, h.c.c2, h.c.c3, h.d.c0, h.d.c1, h.d.c2, h.d.c3, Lib.hid h⟩)
        refine wp_region_held_drew (S := (fun W => W.cell? ⟨b, 0, none⟩ = some (.int .i64 P1) ∧ W.cell? ⟨b, 1, none⟩ = some (.int .i64 N1) ∧ W.cell? ⟨b, 2, none⟩ = some (.slice co1 cn1 cc1) ∧ W.cell? ⟨b, 3, none⟩ = some (.slice oo1 on1 oc1) ∧ W.cell? ⟨b2, 0, none⟩ = some (.int .i64 P1) ∧ W.cell? ⟨b2, 1, none⟩ = some (.int .i64 N1) ∧ W.cell? ⟨b2, 2, none⟩ = some (.slice co2 cn1 cc2) ∧ W.cell? ⟨b2, 3, none⟩ = some (.slice oo2 on1 oc2) ∧ W.cell? ⟨b4, 0, none⟩ = some (.int .i64 P4) ∧ W.cell? ⟨b4, 1, none⟩ = some (.int .i64 N4) ∧ W.cell? ⟨b4, 2, none⟩ = some (.slice co4 cn4 cc4) ∧ W.cell? ⟨b4, 3, none⟩ = some (.slice oo4 on4 oc4) ∧ W.cell? ⟨b5, 0, none⟩ = some (.int .i64 P5) ∧ W.cell? ⟨b5, 1, none⟩ = some (.int .i64 N5) ∧ W.cell? ⟨b5, 2, none⟩ = some (.slice co5 cn5 cc5) ∧ W.cell? ⟨b5, 3, none⟩ = some (.slice oo5 on5 oc5) ∧ Hid (Quad w W b b2 b4 b5 ⟨P1, N1, co1, cn1, cc1, oo1, on1, oc1, cs1, os1⟩ ⟨P1, N1, co2, cn1, cc2, oo2, on1, oc2, cs1, os1⟩ ⟨P4, N4, co4, cn4, cc4, oo4, on4, oc4, cs4, os4⟩ ⟨P5, N5, co5, cn5, cc5, oo5, on5, oc5, cs5, os5⟩))) (by kernel_rfl) ?_ (fun hHeld => ?_)
        · exact HS.out _ (HX.out.keep (Below.refl _ _).drew)
        refine wpAnyH_take (i := 0) (oi := _) (v := ?_) rfl (by kernel_rfl) (by kernel_rfl) (by kernel_rfl) (fun _ _ _ h => h) (Or.inl ⟨by kernel_rfl, ?_⟩) (by assumption) ?_
        rotate_left 1
        focus (intro wq hSw; (try dsimp only at hSw); obtain ⟨s0, s1, s2, s3, s4, s5, s6, s7, s8, s9, s10, s11, s12, s13, s14, s15, s16⟩ := hSw; go_simp; (try with_reducible rfl); done)
        try simp only [List.getElem_toArray, List.getElem_cons_zero, List.getElem_cons_succ, Act.put, List.setIfInBounds_toArray, List.set_cons_zero, List.set_cons_succ]
        refine wpAnyH_take (i := 1) (oi := _) (v := ?_) rfl (by kernel_rfl) (by kernel_rfl) (by kernel_rfl) (fun _ _ _ h => h) (Or.inl ⟨by kernel_rfl, ?_⟩) (by assumption) ?_
        rotate_left 1
        focus (intro wq hSw; (try dsimp only at hSw); obtain ⟨s0, s1, s2, s3, s4, s5, s6, s7, s8, s9, s10, s11, s12, s13, s14, s15, s16⟩ := hSw; go_simp; (try with_reducible rfl); done)
        try simp only [List.getElem_toArray, List.getElem_cons_zero, List.getElem_cons_succ, Act.put, List.setIfInBounds_toArray, List.set_cons_zero, List.set_cons_succ]
        refine wpAnyH_ready (rs := [2]) (by kernel_rfl) (by simp) ?_
        refine AllReadyH.cons (o := _) rfl (fun K hK => ?_) AllReadyH.nil
        rw [if_pos (by kernel_rfl)]
        go_simp
        (go_at_call 13; (with_reducible refine (AL1.out _ hHeld.2.2.2.2.2.2.2.2.2.2.2.2.2.2.2.2.out.c.at_ hHeld.2.2.2.2.2.2.2.2.2.2.2.2.2.2.2.2.out.d.at_).mono ?_); rintro e z1 ⟨rfl, q⟩)
        first | refine hK.out _ _ ?_ (fun hHeld => ?_) | (go_wp2_with fail; refine hK.out _ _ ?_ (fun hHeld => ?_))
        · exact HS.out _ (hHeld.2.2.2.2.2.2.2.2.2.2.2.2.2.2.2.2.out.keep q)
        clear hK K
        try simp only [List.getElem_toArray, List.getElem_cons_zero, List.getElem_cons_succ, Act.put, List.setIfInBounds_toArray, List.set_cons_zero, List.set_cons_succ]
        refine wpAnyH_take (i := 3) (oi := _) (v := ?_) rfl (by kernel_rfl) (by kernel_rfl) (by kernel_rfl) (fun _ _ _ h => h) (Or.inl ⟨by kernel_rfl, ?_⟩) (by assumption) ?_
        rotate_left 1
        focus (intro wq hSw; (try dsimp only at hSw); obtain ⟨s0, s1, s2, s3, s4, s5, s6, s7, s8, s9, s10, s11, s12, s13, s14, s15, s16⟩ := hSw; go_simp; (try with_reducible rfl); done)
        try simp only [List.getElem_toArray, List.getElem_cons_zero, List.getElem_cons_succ, Act.put, List.setIfInBounds_toArray, List.set_cons_zero, List.set_cons_succ]
        refine wpAnyH_take (i := 4) (oi := _) (v := ?_) rfl (by kernel_rfl) (by kernel_rfl) (by kernel_rfl) (fun _ _ _ h => h) (Or.inl ⟨by kernel_rfl, ?_⟩) (by assumption) ?_
        rotate_left 1
        focus (intro wq hSw; (try dsimp only at hSw); obtain ⟨s0, s1, s2, s3, s4, s5, s6, s7, s8, s9, s10, s11, s12, s13, s14, s15, s16⟩ := hSw; go_simp; (try with_reducible rfl); done)
        try simp only [List.getElem_toArray, List.getElem_cons_zero, List.getElem_cons_succ, Act.put, List.setIfInBounds_toArray, List.set_cons_zero, List.set_cons_succ]
        refine wpAnyH_take (i := 6) (oi := _) (v := ?_) rfl (by kernel_rfl) (by kernel_rfl) (by kernel_rfl) (fun _ _ _ h => h) (Or.inl ⟨by kernel_rfl, ?_⟩) (by assumption) ?_
        rotate_left 1
        focus (intro wq hSw; (try dsimp only at hSw); obtain ⟨s0, s1, s2, s3, s4, s5, s6, s7, s8, s9, s10, s11, s12, s13, s14, s15, s16⟩ := hSw; go_simp; (try with_reducible rfl); done)
        try simp only [List.getElem_toArray, List.getElem_cons_zero, List.getElem_cons_succ, Act.put, List.setIfInBounds_toArray, List.set_cons_zero, List.set_cons_succ]
        refine wpAnyH_take (i := 7) (oi := _) (v := ?_) rfl (by kernel_rfl) (by kernel_rfl) (by kernel_rfl) (fun _ _ _ h => h) (Or.inl ⟨by kernel_rfl, ?_⟩) (by assumption) ?_
        rotate_left 1
        focus (intro wq hSw; (try dsimp only at hSw); obtain ⟨s0, s1, s2, s3, s4, s5, s6, s7, s8, s9, s10, s11, s12, s13, s14, s15, s16⟩ := hSw; go_simp; (try with_reducible rfl); done)
        try simp only [List.getElem_toArray, List.getElem_cons_zero, List.getElem_cons_succ, Act.put, List.setIfInBounds_toArray, List.set_cons_zero, List.set_cons_succ]
        refine wpAnyH_ready (rs := [5]) (by kernel_rfl) (by simp) ?_
        refine AllReadyH.cons (o := _) rfl (fun K hK => ?_) AllReadyH.nil
        rw [if_pos (by kernel_rfl)]
        go_simp
        (go_at_call 14; (with_reducible refine (I2.out _ hHeld.2.2.2.2.2.2.2.2.2.2.2.2.2.2.2.2.out.b.at_).mono ?_); rintro e z2 ⟨rfl, q⟩)
        first | refine hK.out _ _ ?_ (fun hHeld => ?_) | (go_wp2_with fail; refine hK.out _ _ ?_ (fun hHeld => ?_))
        · exact HS.out _ (hHeld.2.2.2.2.2.2.2.2.2.2.2.2.2.2.2.2.out.keep q)
        clear hK K
        try simp only [List.getElem_toArray, List.getElem_cons_zero, List.getElem_cons_succ, Act.put, List.setIfInBounds_toArray, List.set_cons_zero, List.set_cons_succ]
        refine wpAnyH_ready (rs := [8]) (by kernel_rfl) (by simp) ?_
        refine AllReadyH.cons (o := _) rfl (fun K hK => ?_) AllReadyH.nil
        rw [if_pos (by kernel_rfl)]
        go_simp
        (go_at_call 13; (with_reducible refine (AL2.out _ hHeld.2.2.2.2.2.2.2.2.2.2.2.2.2.2.2.2.out.a.at_ hHeld.2.2.2.2.2.2.2.2.2.2.2.2.2.2.2.2.out.d.at_).mono ?_); rintro e z3 ⟨rfl, q⟩)
        first | refine hK.out _ _ ?_ (fun hHeld => ?_) | (go_wp2_with fail; refine hK.out _ _ ?_ (fun hHeld => ?_))
        · exact HS.out _ (hHeld.2.2.2.2.2.2.2.2.2.2.2.2.2.2.2.2.out.keep q)
        clear hK K
        try simp only [List.getElem_toArray, List.getElem_cons_zero, List.getElem_cons_succ, Act.put, List.setIfInBounds_toArray, List.set_cons_zero, List.set_cons_succ]
        refine wpAnyH_take (i := 9) (oi := _) (v := ?_) rfl (by kernel_rfl) (by kernel_rfl) (by kernel_rfl) (fun _ _ _ h => h) (Or.inl ⟨by kernel_rfl, ?_⟩) (by assumption) ?_
        rotate_left 1
        focus (intro wq hSw; (try dsimp only at hSw); obtain ⟨s0, s1, s2, s3, s4, s5, s6, s7, s8, s9, s10, s11, s12, s13, s14, s15, s16⟩ := hSw; go_simp; (try with_reducible rfl); done)
        try simp only [List.getElem_toArray, List.getElem_cons_zero, List.getElem_cons_succ, Act.put, List.setIfInBounds_toArray, List.set_cons_zero, List.set_cons_succ]
        refine wpAnyH_take (i := 10) (oi := _) (v := ?_) rfl (by kernel_rfl) (by kernel_rfl) (by kernel_rfl) (fun _ _ _ h => h) (Or.inl ⟨by kernel_rfl, ?_⟩) (by assumption) ?_
        rotate_left 1
        focus (intro wq hSw; (try dsimp only at hSw); obtain ⟨s0, s1, s2, s3, s4, s5, s6, s7, s8, s9, s10, s11, s12, s13, s14, s15, s16⟩ := hSw; go_simp; (try with_reducible rfl); done)
        try simp only [List.getElem_toArray, List.getElem_cons_zero, List.getElem_cons_succ, Act.put, List.setIfInBounds_toArray, List.set_cons_zero, List.set_cons_succ]
        refine wpAnyH_take (i := 11) (oi := _) (v := ?_) rfl (by kernel_rfl) (by kernel_rfl) (by kernel_rfl) (fun _ _ _ h => h) (Or.inl ⟨by kernel_rfl, ?_⟩) (by assumption) ?_
        rotate_left 1
        focus (intro wq hSw; (try dsimp only at hSw); obtain ⟨s0, s1, s2, s3, s4, s5, s6, s7, s8, s9, s10, s11, s12, s13, s14, s15, s16⟩ := hSw; go_simp; (try with_reducible rfl); done)
        try simp only [List.getElem_toArray, List.getElem_cons_zero, List.getElem_cons_succ, Act.put, List.setIfInBounds_toArray, List.set_cons_zero, List.set_cons_succ]
        refine wpAnyH_take (i := 12) (oi := _) (v := ?_) rfl (by kernel_rfl) (by kernel_rfl) (by kernel_rfl) (fun _ _ _ h => h) (Or.inl ⟨by kernel_rfl, ?_⟩) (by assumption) ?_
        rotate_left 1
        focus (intro wq hSw; (try dsimp only at hSw); obtain ⟨s0, s1, s2, s3, s4, s5, s6, s7, s8, s9, s10, s11, s12, s13, s14, s15, s16⟩ := hSw; go_simp; (try with_reducible rfl); done)
        try simp only [List.getElem_toArray, List.getElem_cons_zero, List.getElem_cons_succ, Act.put, List.setIfInBounds_toArray, List.set_cons_zero, List.set_cons_succ]
        refine wpAnyH_take (i := 13) (oi := _) (v := ?_) rfl (by kernel_rfl) (by kernel_rfl) (by kernel_rfl) (fun _ _ _ h => h) (Or.inl ⟨by kernel_rfl, ?_⟩) (by assumption) ?_
        rotate_left 1
        focus (intro wq hSw; (try dsimp only at hSw); obtain ⟨s0, s1, s2, s3, s4, s5, s6, s7, s8, s9, s10, s11, s12, s13, s14, s15, s16⟩ := hSw; go_simp; (try with_reducible rfl); done)
        try simp only [List.getElem_toArray, List.getElem_cons_zero, List.getElem_cons_succ, Act.put, List.setIfInBounds_toArray, List.set_cons_zero, List.set_cons_succ]
        refine wpAnyH_ready (rs := [14]) (by kernel_rfl) (by simp) ?_
        refine AllReadyH.cons (o := _) rfl (fun K hK => ?_) AllReadyH.nil
        rw [if_pos (by kernel_rfl)]
        go_simp
        (go_at_call 13; (with_reducible refine (AL3.out _ hHeld.2.2.2.2.2.2.2.2.2.2.2.2.2.2.2.2.out.b.at_ hHeld.2.2.2.2.2.2.2.2.2.2.2.2.2.2.2.2.out.a.at_).mono ?_); rintro e z4 ⟨rfl, q⟩)
        first | refine hK.out _ _ ?_ (fun hHeld => ?_) | (go_wp2_with fail; refine hK.out _ _ ?_ (fun hHeld => ?_))
        · exact HS.out _ (hHeld.2.2.2.2.2.2.2.2.2.2.2.2.2.2.2.2.out.keep q)
        clear hK K
        try simp only [List.getElem_toArray, List.getElem_cons_zero, List.getElem_cons_succ, Act.put, List.setIfInBounds_toArray, List.set_cons_zero, List.set_cons_succ]
        refine wpAnyH_take (i := 15) (oi := _) (v := ?_) rfl (by kernel_rfl) (by kernel_rfl) (by kernel_rfl) (fun _ _ _ h => h) (Or.inl ⟨by kernel_rfl, ?_⟩) (by assumption) ?_
        rotate_left 1
        focus (intro wq hSw; (try dsimp only at hSw); obtain ⟨s0, s1, s2, s3, s4, s5, s6, s7, s8, s9, s10, s11, s12, s13, s14, s15, s16⟩ := hSw; go_simp; (try with_reducible rfl); done)
        try simp only [List.getElem_toArray, List.getElem_cons_zero, List.getElem_cons_succ, Act.put, List.setIfInBounds_toArray, List.set_cons_zero, List.set_cons_succ]
        refine wpAnyH_take (i := 16) (oi := _) (v := ?_) rfl (by kernel_rfl) (by kernel_rfl) (by kernel_rfl) (fun _ _ _ h => h) (Or.inl ⟨by kernel_rfl, ?_⟩) (by assumption) ?_
        rotate_left 1
        focus (intro wq hSw; (try dsimp only at hSw); obtain ⟨s0, s1, s2, s3, s4, s5, s6, s7, s8, s9, s10, s11, s12, s13, s14, s15, s16⟩ := hSw; go_simp; (try with_reducible rfl); done)
        try simp only [List.getElem_toArray, List.getElem_cons_zero, List.getElem_cons_succ, Act.put, List.setIfInBounds_toArray, List.set_cons_zero, List.set_cons_succ]
        refine wpAnyH_ready (rs := [17]) (by kernel_rfl) (by simp) ?_
        refine AllReadyH.cons (o := _) rfl (fun K hK => ?_) AllReadyH.nil
        rw [if_pos (by kernel_rfl)]
        go_simp
        (go_at_call 9; (with_reducible refine (HAW.out _).mono ?_); rintro e z5 ⟨rfl, q⟩)
        first | refine hK.out _ _ ?_ (fun hHeld => ?_) | (go_wp2_with fail; refine hK.out _ _ ?_ (fun hHeld => ?_))
        · exact HS.out _ (hHeld.2.2.2.2.2.2.2.2.2.2.2.2.2.2.2.2.out.keep q)
        clear hK K
        try simp only [List.getElem_toArray, List.getElem_cons_zero, List.getElem_cons_succ, Act.put, List.setIfInBounds_toArray, List.set_cons_zero, List.set_cons_succ]
        refine wpAnyH_take (i := 18) (oi := _) (v := ?_) rfl (by kernel_rfl) (by kernel_rfl) (by kernel_rfl) (fun _ _ _ h => h) (Or.inl ⟨by kernel_rfl, ?_⟩) (by assumption) ?_
        rotate_left 1
        focus (intro wq hSw; (try dsimp only at hSw); obtain ⟨s0, s1, s2, s3, s4, s5, s6, s7, s8, s9, s10, s11, s12, s13, s14, s15, s16⟩ := hSw; go_simp; (try with_reducible rfl); done)
        try simp only [List.getElem_toArray, List.getElem_cons_zero, List.getElem_cons_succ, Act.put, List.setIfInBounds_toArray, List.set_cons_zero, List.set_cons_succ]
        refine wpAnyH_take (i := 19) (oi := _) (v := ?_) rfl (by kernel_rfl) (by kernel_rfl) (by kernel_rfl) (fun _ _ _ h => h) (Or.inl ⟨by kernel_rfl, ?_⟩) (by assumption) ?_
        rotate_left 1
        focus (intro wq hSw; (try dsimp only at hSw); obtain ⟨s0, s1, s2, s3, s4, s5, s6, s7, s8, s9, s10, s11, s12, s13, s14, s15, s16⟩ := hSw; go_simp; (try with_reducible rfl); done)
        try simp only [List.getElem_toArray, List.getElem_cons_zero, List.getElem_cons_succ, Act.put, List.setIfInBounds_toArray, List.set_cons_zero, List.set_cons_succ]
        refine wpAnyH_done (by kernel_rfl) ?_ _
        have HBW := Lib.hid hHeld.2.2.2.2.2.2.2.2.2.2.2.2.2.2.2.2.out.a.bw
        clear hHeld HS I2 AL1 AL2 AL3
        go_wp2
        go_returns
        exact ⟨rfl, HBW.out⟩
end Go.Proofs.Ytkhnoikdfelheaa
