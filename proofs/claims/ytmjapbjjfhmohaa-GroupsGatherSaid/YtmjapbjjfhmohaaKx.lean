/- R3, N1 in one. -/
import Derived.Test.YtmjapbjjfhmohaaKu
import Derived.Test.YtmjapbjjfhmohaaKw
import Derived.BigRegion
namespace Go.Proofs.Ytmjapbjjfhmohaa
set_option linter.unusedVariables false
set_option linter.unusedSimpArgs false
open Go.ChangeShapes Go.WideShapes Go.ChangeAt Go.RowKit

theorem divisor_any (x y : Nat) (hx : x < 18446744073709551616) (hy : y < 18446744073709551616) (w : World) :
    Calls Try.prog 73 #[.int .u64 x, .int .u64 y] w fun e w' => e = .returned (.int .u64 (Nat.gcd x y : Nat)) ∧ ∃ n, w' = w.drewN n := by
  go_enter Try.func73, Try.ntmps73
  go_wp2
  refine wp_scope_jumps 0 (fun a' w' => (∃ n, w' = w.drewN n) ∧ ∃ (p q : Nat) (u5 u6 u7 u8 u9 u10 u11 : Value), a' = { tmps := #[.int .u64 p, .int .u64 q, undef, undef, .int .u64 0, u5, u6, u7, u8, u9, u10, u11], defers := [] } ∧ Nat.gcd p q = Nat.gcd x y ∧ q < 18446744073709551616 ∧ p < 18446744073709551616) (fun a' _ => (intOf (a'.tmps.getD 1 undef)).toNat) rfl ?_ ?_
  · by_cases h0 : y = 0
    · subst h0
      go_wp2
      go_step3
      go_wp2
      simp only [Exit.jump]
      go_ret
      exact ⟨ret_int (by simp), 0, rfl⟩
    · have h1 : (1 : Int) ≤ (y : Int) := by omega
      have hm := Nat.mod_lt x (show 0 < y by omega)
      have hg : Nat.gcd y (x % y) = Nat.gcd x y := by rw [Nat.gcd_comm y, ← Nat.gcd_rec, Nat.gcd_comm]
      have HG := Lib.hid hg
      clear hg
      go_wp2
      go_step3
      go_wp2
      go_quiet (fail)
      go_wp2
      go_step3
      exact ⟨rfl, ⟨_, rfl⟩, y, x % y, _, _, _, _, _, _, _, rfl, HG.out, by omega, by omega⟩
  · rintro a' w' ⟨⟨n, rfl⟩, p, q, u5, u6, u7, u8, u9, u10, u11, rfl, hg0, hq, hp⟩
    have HG0 := Lib.hid hg0
    clear hg0
    by_cases h0 : q = 0
    · subst h0
      go_wp2
      simp only [Exit.jump]
      go_ret
      exact ⟨ret_int (by rw [← HG0.out]; simp), n, rfl⟩
    · have h1 : (1 : Int) ≤ (q : Int) := by omega
      have hm := Nat.mod_lt p (show 0 < q by omega)
      have hg : Nat.gcd q (p % q) = Nat.gcd p q := by rw [Nat.gcd_comm q, ← Nat.gcd_rec, Nat.gcd_comm]
      have HG := Lib.hid hg
      clear hg
      go_wp2
      go_quiet (fail)
      go_wp2
      go_step3
      exact ⟨rfl, ⟨⟨_, drewN_drewN _ _ _⟩, q, p % q, _, _, _, _, _, _, _, rfl, HG.out.trans HG0.out, by omega, by omega⟩, by simp [intOf]; omega⟩
theorem lcm_ok (a b : Int) (w : World) (ha1 : -9223372036854775808 ≤ a) (ha2 : a ≤ 9223372036854775807) (hb1 : -9223372036854775808 ≤ b) (hb2 : b ≤ 9223372036854775807)
    (ha : a ≠ 0) (hb : b ≠ 0) (h : lcmN a b ≤ 9223372036854775807) :
    Calls Try.prog 48 #[.int .i64 a, .int .i64 b] w fun e w' => e = .returned (.tuple #[.int .i64 (lcmN a b : Nat), .int .i64 0]) ∧ ∃ n, w' = w.drewN n := by
  have D := Lib.hid (divisor_any a.natAbs b.natAbs (by omega) (by omega))
  have hg : 1 ≤ Nat.gcd a.natAbs b.natAbs := Nat.gcd_pos_of_pos_left _ (by omega)
  have hq : a.natAbs / Nat.gcd a.natAbs b.natAbs ≤ a.natAbs := Nat.div_le_self _ _
  have hq1 : (0 : Int) ≤ (a.natAbs : Int) / (Nat.gcd a.natAbs b.natAbs : Nat) := by rw [← Int.natCast_ediv]; exact Int.natCast_nonneg _
  have hq2 : (a.natAbs : Int) / (Nat.gcd a.natAbs b.natAbs : Nat) ≤ 9223372036854775808 := by rw [← Int.natCast_ediv]; exact Int.le_trans (Int.ofNat_le.2 hq) (by omega)
  have M : ∀ w, Calls Try.prog 72 #[.int .u64 ((a.natAbs : Int) / (Nat.gcd a.natAbs b.natAbs : Nat)), .int .u64 b.natAbs] w fun e w' => e = .returned (.tuple #[.int .u64 0, .int .u64 (lcmN a b : Nat)]) ∧ w = w' := by
    intro w
    rw [← Int.natCast_ediv]
    exact mul64_small _ _ (by omega) (by omega) (by unfold lcmN at h; omega) w
  have M' := Lib.hid M
  clear M
  generalize lcmN a b = l at *
  generalize Nat.gcd a.natAbs b.natAbs = g at *
  have d1 : (a == 0) = false := by simpa using ha
  have d2 : (b == 0) = false := by simpa using hb
  go_enter Try.func48, Try.ntmps48
  go_wp2_with (first | (go_at_call 71; (with_reducible refine (unsigned_any _ _ (by omega) (by omega)).mono ?_); rintro e w' ⟨rfl, rfl⟩) | (go_at_call 73; (with_reducible refine (D.out _).mono ?_); rintro e w' ⟨rfl, n, rfl⟩) | (go_at_call 72; (with_reducible refine (M'.out _).mono ?_); rintro e w' ⟨rfl, rfl⟩) | (go_at_call 74; (with_reducible refine (signed_in _ _ (by omega) (by omega)).mono ?_); rintro e w' ⟨rfl, rfl⟩))
  go_returns
  exact ⟨rfl, _, rfl⟩
set_option maxHeartbeats 2000000 in
theorem right_long (F : Fv) (w : World) (hF : F.At w) (k1 : F.cn ≤ 6000) (k2 : F.on ≤ 6000) (k3 : 60000 < F.size) :
    Calls Try.prog 18 #[F.v] w fun e w' => e = .returned (.int .i64 3) ∧ Below w.heap.size w w' := by
  have HSZ := Lib.hid (fun W (h : F.At W) => size_any F W h (by omega) (by omega))
  obtain ⟨S, hS⟩ : ∃ q, F.size = q := ⟨_, rfl⟩
  rw [hS] at HSZ k3
  obtain ⟨P, N, co, cn, cc, oo, on, oc, cs, os⟩ := F
  have LC : Hid (cs.length = cn) := Lib.hid hF.core.len
  have LO : Hid (os.length = on) := Lib.hid hF.odd.len
  have hmc : cn ≤ 9223372036854775807 := Nat.le_trans hF.core.le hF.core.top
  have hmo : on ≤ 9223372036854775807 := Nat.le_trans hF.odd.le hF.odd.top
  obtain ⟨b, hb⟩ : ∃ b, w.heap.size = b := ⟨_, rfl⟩
  obtain ⟨wb, hwb⟩ : ∃ wb, w.alloc (.cells #[.int .i64 P, .int .i64 N, .slice co cn cc, .slice oo on oc] 25) = wb := ⟨_, rfl⟩
  have HBB : Hid (Fbox ⟨P, N, co, cn, cc, oo, on, oc, cs, os⟩ w wb b) := Lib.hid (by rw [← hwb, ← hb]; exact fbox_new hF)
  clear hF
  show Calls Try.prog 18 #[.agg #[.int .i64 P, .int .i64 N, .slice co cn cc, .slice oo on oc]] w _
  go_enter Try.func18, Try.ntmps18
  go_upto_region 1 with fail
  clear hwb hb
  have e0 : wb.cell? ⟨b, 0, none⟩ = some (.int .i64 P) := HBB.out.c0
  have e1 : wb.cell? ⟨b, 1, none⟩ = some (.int .i64 N) := HBB.out.c1
  have e2 : wb.cell? ⟨b, 2, none⟩ = some (.slice co cn cc) := HBB.out.c2
  have e3 : wb.cell? ⟨b, 3, none⟩ = some (.slice oo on oc) := HBB.out.c3
  have HSZ : Hid (∀ W, Fv.At ⟨P, N, co, cn, cc, oo, on, oc, cs, os⟩ W → Calls Try.prog 41 #[.agg #[.int .i64 P, .int .i64 N, .slice co cn cc, .slice oo on oc]] W fun e w' => e = .returned (.int .i64 (S : Nat)) ∧ Below W.heap.size W w') := HSZ
  have k1 : cn ≤ 6000 := k1
  have k2 : on ≤ 6000 := k2
  have t1 : (cn : Int) ≤ 6000 := by omega
  have t2 : (on : Int) ≤ 6000 := by omega
  have t3 : ¬ (S : Int) ≤ 60000 := by omega
  have t4 : (60000 : Int) < (S : Int) := by omega
  go_wp2_with fail
  (with_reducible refine (HSZ.out _ HBB.out.at_).mono ?_)
  rintro e w2 ⟨rfl, q⟩
  have HBB := Lib.hid (HBB.out.keep q)
  clear q e0 e1 e2 e3 HSZ
  go_wp2_with fail
  go_returns
  exact ⟨rfl, HBB.out.bw⟩
set_option maxHeartbeats 1000000 in
theorem done_long (F : Fv) (w : World) (hF : F.At w) (k1 : F.cn ≤ 6000) (k2 : F.on ≤ 6000) (k3 : 60000 < F.size) :
    Calls Try.prog 27 #[F.v] w fun e w' => e = .returned (.tuple #[.agg #[.int .i64 0, .int .i64 0, .slice none 0 0, .slice none 0 0], .int .i64 3]) ∧ Hid (Below w.heap.size w w') := by
  have HR := Lib.hid (fun W (h : F.At W) => right_long F W h k1 k2 k3)
  have HFA := Lib.hid hF
  obtain ⟨P, N, co, cn, cc, oo, on, oc, cs, os⟩ := F
  obtain ⟨b, hb⟩ : ∃ b, w.heap.size = b := ⟨_, rfl⟩
  obtain ⟨w1, hw1⟩ : ∃ z, (w.alloc (.cells #[.int .i64 P, .int .i64 N, .slice co cn cc, .slice oo on oc] 25)).alloc (.cells #[.int .i64 0, .int .i64 0, .slice none 0 0, .slice none 0 0] 25) = z := ⟨_, rfl⟩
  have KB : Hid (Below w.heap.size w w1) := Lib.hid (by rw [← hw1]; exact ((Below.refl _ w).alloc (Nat.le_refl _) _).alloc (by simp) _)
  have B1 : Hid (w1.heap[b]? = some (.cells #[.int .i64 P, .int .i64 N, .slice co cn cc, .slice oo on oc] 25 (0, 0))) := Lib.hid (by rw [← hw1]; exact (Below.heap_alloc _ _ _ (by simp; omega)).trans (heap_at hb))
  have B2 : Hid (w1.heap[b + 1]? = some (.cells #[.int .i64 0, .int .i64 0, .slice none 0 0, .slice none 0 0] 25 (0, 0))) := Lib.hid (by rw [← hw1]; exact heap_at (by simp; omega))
  have HR : Hid (∀ W, Fv.At ⟨P, N, co, cn, cc, oo, on, oc, cs, os⟩ W → Calls Try.prog 18 #[.agg #[.int .i64 P, .int .i64 N, .slice co cn cc, .slice oo on oc]] W fun e w' => e = .returned (.int .i64 3) ∧ Below W.heap.size W w') := HR
  have HBW : Hid (w.heap.size ≤ b ∧ b + 1 < w1.heap.size) := Lib.hid ⟨by omega, (Array.getElem?_eq_some_iff.1 B2.out).1⟩
  clear hF k1 k2 k3
  show Calls Try.prog 27 #[.agg #[.int .i64 P, .int .i64 N, .slice co cn cc, .slice oo on oc]] w _
  go_enter Try.func27, Try.ntmps27
  go_upto_region 1 with fail
  try rw [hw1]
  try rw [hb]
  clear hw1 hb
  have c0 := cell_block B1.out 0
  have c1 := cell_block B1.out 1
  have c2 := cell_block B1.out 2
  have c3 := cell_block B1.out 3
  go_wp2_with fail
  (with_reducible refine (HR.out _ (HFA.out.keep KB.out)).mono ?_)
  rintro e w2 ⟨rfl, q⟩
  have KB2 := Lib.hid (KB.out.trans (q.mono KB.out.size))
  have B1b := Lib.hid (heap_keep' B1.out q)
  have B2b := Lib.hid (heap_keep' B2.out q)
  have HBW2 : Hid (b + 1 < w2.heap.size) := Lib.hid (Nat.lt_of_lt_of_le HBW.out.2 q.size)
  clear q c0 c1 c2 c3 KB B1 B2
  obtain ⟨r0, r1, r2, r3⟩ : _ ∧ _ ∧ _ ∧ _ := ⟨cell_block B2b.out 0, cell_block B2b.out 1, cell_block B2b.out 2, cell_block B2b.out 3⟩
  have f0 := block_free' B2b.out 0
  have f1 := block_free' B2b.out 1
  have f2 := block_free' B2b.out 2
  have f3 := block_free' B2b.out 3
  go_wp2_with fail
  have XB := done_put B2b.out (y0 := .int .i64 0) (y1 := .int .i64 0) (y2 := .slice none 0 0) (y3 := .slice none 0 0)
  have KE : Hid (Below w.heap.size w ((((w2.setCell ⟨b + 1, 0, none⟩ (.int .i64 0)).setCell ⟨b + 1, 1, none⟩ (.int .i64 0)).setCell ⟨b + 1, 2, none⟩ (.slice none 0 0)).setCell ⟨b + 1, 3, none⟩ (.slice none 0 0))) := Lib.hid (by
    have h : w.heap.size ≤ b + 1 := by have := HBW.out; omega
    exact (((KB2.out.setCell (p := ⟨b + 1, 0, none⟩) h _).setCell (p := ⟨b + 1, 1, none⟩) h _).setCell (p := ⟨b + 1, 2, none⟩) h _).setCell (p := ⟨b + 1, 3, none⟩) h _)
  obtain ⟨we, hwe⟩ : ∃ we, (((w2.setCell ⟨b + 1, 0, none⟩ (.int .i64 0)).setCell ⟨b + 1, 1, none⟩ (.int .i64 0)).setCell ⟨b + 1, 2, none⟩ (.slice none 0 0)).setCell ⟨b + 1, 3, none⟩ (.slice none 0 0) = we := ⟨_, rfl⟩
  rw [hwe] at XB KE ⊢
  clear r0 r1 r2 r3 f0 f1 f2 f3 hwe
  have r0 := cell_block XB 0
  have r1 := cell_block XB 1
  have r2 := cell_block XB 2
  have r3 := cell_block XB 3
  exact bodyPost_ret (v := .tuple #[.agg #[.int .i64 0, .int .i64 0, .slice none 0 0, .slice none 0 0], .int .i64 3]) (by simp [results, Try.results27, go_sem, r0, r1, r2, r3]) rfl ⟨rfl, KE⟩

/-- The closure that tells a core's sets. -/
theorem tell49_any (F : Fv) (j : Int) (bf : Nat) (w : World) (hF : F.At w) (ok : F.Ok) (hb : w.heap[bf]? = some (.cells F.box 25 (0, 0))) (h1 : -9223372036854775808 ≤ j) (h2 : j ≤ 9223372036854775807) :
    Calls Try.prog 49 #[.int .i64 j, .pointer (some ⟨bf, 0, none⟩)] w fun e w' => ∃ v k, e = .returned (.tuple #[v, .int .i64 k]) ∧ Hid (Below w.heap.size w w') ∧ Hid (TO (cg F.cs F.P F.N) (fun j => Fit (cg F.cs F.P F.N j)) w.heap.size j (v, k) w') := by
  have HR := Lib.hid (raw_any F j w hF ok h1 h2)
  obtain ⟨P, N, co, cn, cc, oo, on, oc, cs, os⟩ := F
  have c0 := cell_block hb 0
  have c1 := cell_block hb 1
  have c2 := cell_block hb 2
  have c3 := cell_block hb 3
  have HR : Hid (Calls Try.prog 32 #[.agg #[.int .i64 P, .int .i64 N, .slice co cn cc, .slice oo on oc], .int .i64 j] w fun e w' => ∃ (v : Value) (k : Int), e = .returned (.tuple #[v, .int .i64 k]) ∧ Below w.heap.size w w' ∧ Hid ((Fit (cg cs P N j) ∧ k = 0 ∧ w'.ownsRow w.heap.size 50 2 v (cg cs P N j).length (spCells (cg cs P N j))) ∨ (¬ Fit (cg cs P N j) ∧ k = 20 ∧ v = .slice none 0 0))) := HR
  clear hF ok hb
  go_enter Try.func49, Try.ntmps49
  go_wp2_with fail
  (with_reducible refine HR.out.mono ?_)
  rintro e w1 ⟨v, k, rfl, q, hv⟩
  have HQ := Lib.hid q
  clear q c0 c1 c2 c3
  go_wp2
  go_returns
  exact ⟨v, k, rfl, HQ, hv⟩
theorem lcm_nat (a b : Nat) (w : World) (ha : 0 < a) (hb : 0 < b) (h : a / Nat.gcd a b * b ≤ 9223372036854775807) (h1 : a ≤ 9223372036854775807) (h2 : b ≤ 9223372036854775807) :
    Calls Try.prog 48 #[.int .i64 (a : Int), .int .i64 (b : Int)] w fun e w' => e = .returned (.tuple #[.int .i64 ((a / Nat.gcd a b * b : Nat) : Int), .int .i64 0]) ∧ Below w.heap.size w w' := by
  have e : lcmN (a : Int) (b : Int) = a / Nat.gcd a b * b := by simp [lcmN]
  refine (lcm_ok a b w (by omega) (by omega) (by omega) (by omega) (by omega) (by omega) (by rw [e]; exact h)).mono ?_
  rintro x w' ⟨rfl, n, rfl⟩
  rw [e]
  exact ⟨rfl, below_drewN (Below.refl _ _) n⟩
/-- How long a core's groups are, and how many. -/
theorem gcd_parts {n m : Nat} (hn : 0 < n) (hm : 0 < m) : ∃ g a k, n = g * a ∧ m = g * k ∧ 0 < g ∧ 0 < a ∧ 0 < k ∧ n / Nat.gcd n m * m = a * m ∧ a * m = n * k := by
  have hg : 0 < Nat.gcd n m := Nat.gcd_pos_of_pos_left _ hn
  obtain ⟨a, ha⟩ := Nat.gcd_dvd_left n m
  obtain ⟨k, hk⟩ := Nat.gcd_dvd_right n m
  refine ⟨Nat.gcd n m, a, k, ha, hk, hg, Nat.pos_of_ne_zero (by rintro rfl; omega), Nat.pos_of_ne_zero (by rintro rfl; omega), ?_, ?_⟩
  · rw [show n / Nat.gcd n m = a by conv => lhs; lhs; rw [ha]
                                    exact Nat.mul_div_cancel_left a hg]
  · conv => lhs; rw [hk]
    conv => rhs; rw [ha]
    rw [← Nat.mul_assoc, Nat.mul_comm a]
/-- A result's cells, written. -/
theorem res_put4 {w0 w : World} {n₀ r : Nat} {x0 x1 x2 x3 : Value} (h1 : w.heap[r]? = some (.cells #[x0, x1, x2, x3] 25 (0, 0))) (hb : Below n₀ w0 w) (l1 : n₀ ≤ r) (y0 y1 y2 y3 : Value) :
    ((((w.setCell ⟨r, 0, none⟩ y0).setCell ⟨r, 1, none⟩ y1).setCell ⟨r, 2, none⟩ y2).setCell ⟨r, 3, none⟩ y3).heap[r]? = some (.cells #[y0, y1, y2, y3] 25 (0, 0)) ∧
    Below n₀ w0 ((((w.setCell ⟨r, 0, none⟩ y0).setCell ⟨r, 1, none⟩ y1).setCell ⟨r, 2, none⟩ y2).setCell ⟨r, 3, none⟩ y3) ∧
    w.grownBy ((((w.setCell ⟨r, 0, none⟩ y0).setCell ⟨r, 1, none⟩ y1).setCell ⟨r, 2, none⟩ y2).setCell ⟨r, 3, none⟩ y3) (some r) :=
  ⟨put_four h1 y0 y1 y2 y3, (((hb.setCell (p := ⟨r, 0, none⟩) l1 _).setCell (p := ⟨r, 1, none⟩) l1 _).setCell (p := ⟨r, 2, none⟩) l1 _).setCell (p := ⟨r, 3, none⟩) l1 _, grown_four w r y0 y1 y2 y3⟩
/-- The boxes while groupedCore goes on. -/
structure GcW (w W : World) (b r g n₁ : Nat) (P N : Int) (bx : Array Value) (vc : Value) : Prop where
  bw : Below w.heap.size w W
  sz : n₁ ≤ W.heap.size
  b0 : W.heap[b]? = some (.cells bx 25 (0, 0))
  b1 : W.heap[r]? = some (.cells #[.int .i64 0, .int .i64 0, .slice none 0 0, .slice none 0 0] 25 (0, 0))
  g_ : W.heap[g]? = some (.cells #[.int .i64 P, .int .i64 N, vc, .slice none 0 0] 25 (0, 0))
  lo : w.heap.size ≤ b
  br : b < r
  mid : r < g
  hi : g < n₁
theorem GcW.grown {w W W' : World} {b r g n₁ : Nat} {P N : Int} {bx : Array Value} {vc : Value} {row : Option Nat} (h : GcW w W b r g n₁ P N bx vc) (hg : W.grownBy W' row) (hr : ∀ q, row = some q → n₁ ≤ q) : GcW w W' b r g n₁ P N bx vc := by
  have lo := h.lo; have br := h.br; have mid := h.mid; have hi := h.hi
  have bl : ∀ {k : Nat} {o : Obj}, k < n₁ → W.heap[k]? = some o → W'.heap[k]? = some o := fun h1 h2 => (hg.block _ (Array.getElem?_eq_some_iff.1 h2).1 (fun e => by have := hr _ e.symm; omega)).trans h2
  exact ⟨h.bw.grown hg h.bw.size (fun r e => by have := hr r e; omega), Nat.le_trans h.sz hg.size, bl (by omega) h.b0, bl (by omega) h.b1, bl hi h.g_, lo, br, mid, hi⟩
theorem GcW.keep {w W W' : World} {b r g n₁ : Nat} {P N : Int} {bx : Array Value} {vc : Value} (h : GcW w W b r g n₁ P N bx vc) (k : Below W.heap.size W W') : GcW w W' b r g n₁ P N bx vc := h.grown (grown_of_below k) (fun r e => by cases e)
theorem GcW.put {w W : World} {b r g n₁ : Nat} {P N : Int} {bx : Array Value} {vc : Value} (h : GcW w W b r g n₁ P N bx vc) (u : Value) : GcW w (W.setCell ⟨g, 2, none⟩ u) b r g n₁ P N bx u := by
  have lo := h.lo; have br := h.br; have mid := h.mid; have hi := h.hi
  have bl : ∀ {k : Nat} {o : Obj}, k ≠ g → W.heap[k]? = some o → (W.setCell ⟨g, 2, none⟩ u).heap[k]? = some o := fun h1 h2 => (Below.heap_setCell W ⟨g, 2, none⟩ u _ h1).trans h2
  exact ⟨h.bw.setCell (p := ⟨g, 2, none⟩) (by show w.heap.size ≤ g; omega) u, by simpa using h.sz, bl (by omega) h.b0, bl (by omega) h.b1, by rw [set_block h.g_]; rfl, lo, br, mid, hi⟩
/-- What groupedCore answers; k turns, a groups. -/
def CoreOut (F : Fv) (m a k : Nat) (n₀ : Nat) (e : Ending) (w' : World) : Prop :=
  (60000 < k * lens F.cs ∧ e = .returned (.tuple #[.agg #[.int .i64 0, .int .i64 0, .slice none 0 0, .slice none 0 0], .int .i64 3])) ∨
  (k * lens F.cs ≤ 60000 ∧ (1099511627776 < F.P * k ∨ ¬ ∀ i, i < a → ∀ j, j < m → Fit (cg F.cs F.P F.N ((i : Int) * (m : Int) + (j : Int)))) ∧ e = .returned (.tuple #[.agg #[.int .i64 0, .int .i64 0, .slice none 0 0, .slice none 0 0], .int .i64 20])) ∨
  (k * lens F.cs ≤ 60000 ∧ F.P * k ≤ 1099511627776 ∧ (∀ i, i < a → ∀ j, j < m → Fit (cg F.cs F.P F.N ((i : Int) * (m : Int) + (j : Int)))) ∧ ∃ co c, e = .returned (.tuple #[.agg #[.int .i64 (F.P * k), .int .i64 (a : Int), .slice co a c, .slice none 0 0], .int .i64 0]) ∧ CoOwn w' n₀ (.slice co a c) a (grpCs F.cs F.P F.N m a))
theorem core_none (F : Fv) (m : Int) (w : World) (hF : F.At w) (h0 : F.N = 0) : Calls Try.prog 23 #[F.v, .int .i64 m] w fun e w' => e = .returned (.tuple #[.agg #[.int .i64 0, .int .i64 0, .slice none 0 0, .slice none 0 0], .int .i64 0]) ∧ Hid (Below w.heap.size w w') := by
  obtain ⟨P, N, co, cn, cc, oo, on, oc, cs, os⟩ := F
  obtain rfl : N = 0 := h0
  clear hF
  obtain ⟨b, hb⟩ : ∃ b, w.heap.size = b := ⟨_, rfl⟩
  obtain ⟨r, hr'⟩ : ∃ z, b + 1 = z := ⟨_, rfl⟩
  obtain ⟨wb, hwb⟩ : ∃ z, ((w.alloc (.cells #[.int .i64 P, .int .i64 0, .slice co cn cc, .slice oo on oc] 25)).alloc (.cells #[.int .i64 0, .int .i64 0, .slice none 0 0, .slice none 0 0] 25)) = z := ⟨_, rfl⟩
  have KB : Hid (Below w.heap.size w wb) := Lib.hid (by rw [← hwb]; exact ((Below.refl _ w).alloc (Nat.le_refl _) _).alloc (by simp) _)
  have B0 : Hid (wb.heap[b]? = some (.cells #[.int .i64 P, .int .i64 0, .slice co cn cc, .slice oo on oc] 25 (0, 0))) := Lib.hid (by rw [← hwb]; exact (Below.heap_alloc _ _ _ (by simp; omega)).trans (heap_at hb))
  have B1 : Hid (wb.heap[r]? = some (.cells #[.int .i64 0, .int .i64 0, .slice none 0 0, .slice none 0 0] 25 (0, 0))) := Lib.hid (by rw [← hwb]; exact heap_at (by simp; omega))
  have HRD : Hid (w.heap.size ≤ b ∧ b < r) := Lib.hid (by omega)
  show Calls Try.prog 23 #[.agg #[.int .i64 P, .int .i64 0, .slice co cn cc, .slice oo on oc], .int .i64 m] w _
  have HX := Lib.hid hwb
  have HX0 := Lib.hid hb
  have HX1 := Lib.hid hr'
  clear hwb hb hr'
  go_enter Try.func23, Try.ntmps23
  go_upto_region 1 with fail
  try rw [HX.out]
  try rw [HX0.out]
  try rw [HX1.out]
  clear HX HX0 HX1
  have c0 := cell_block B0.out 0
  have c1 := cell_block B0.out 1
  have c2 := cell_block B0.out 2
  have c3 := cell_block B0.out 3
  have r0 := cell_block B1.out 0
  have r1 := cell_block B1.out 1
  have r2 := cell_block B1.out 2
  have r3 := cell_block B1.out 3
  have f0 := free_blk B1.out 0
  have f1 := free_blk B1.out 1
  have f2 := free_blk B1.out 2
  have f3 := free_blk B1.out 3
  go_wp2_with fail
  have RP := Lib.hid (res_put4 B1.out KB.out (by have := HRD.out; omega) (.int .i64 0) (.int .i64 0) (.slice none 0 0) (.slice none 0 0))
  obtain ⟨we, hwe⟩ : ∃ we, (((wb.setCell ⟨r, 0, none⟩ (.int .i64 0)).setCell ⟨r, 1, none⟩ (.int .i64 0)).setCell ⟨r, 2, none⟩ (.slice none 0 0)).setCell ⟨r, 3, none⟩ (.slice none 0 0) = we := ⟨_, rfl⟩
  rw [hwe] at RP ⊢
  clear r0 r1 r2 r3 f0 f1 f2 f3 hwe
  have r0 := cell_block RP.out.1 0
  have r1 := cell_block RP.out.1 1
  have r2 := cell_block RP.out.1 2
  have r3 := cell_block RP.out.1 3
  exact bodyPost_ret (v := .tuple #[.agg #[(.int .i64 0), (.int .i64 0), (.slice none 0 0), (.slice none 0 0)], .int .i64 0]) (by simp [results, Try.results23, go_sem, r0, r1, r2, r3]) rfl (⟨rfl, Lib.hid RP.out.2.1⟩)

set_option maxRecDepth 100000 in
set_option maxHeartbeats 4000000 in
theorem core_any (F : Fv) (m a k al : Nat) (w : World) (hF : F.At w) (ok : F.Ok) (hN : F.N = (F.cn : Int)) (hc : 0 < F.cn) (hc2 : F.cn ≤ 12) (hp1 : 1 ≤ F.P) (hp2 : F.P ≤ 1099511627776) (hs : ∀ l ∈ F.cs, l.length ≤ 1000) (hm1 : 1 ≤ m) (hm2 : m ≤ 6000)
    (hl : F.cn / Nat.gcd F.cn m * m = al) (hal : al = a * m) (hak : al = F.cn * k) (ha1 : 0 < a) (ha2 : a ≤ 12) (hk1 : 0 < k) (hk2 : k ≤ 6000) :
    Calls Try.prog 23 #[F.v, .int .i64 (m : Int)] w fun e w' => CoreOut F m a k w.heap.size e w' ∧ Hid (Below w.heap.size w w') := by
  have CT := Lib.hid (fun W (j : Int) bf (h : F.At W) hb h1 h2 => tell49_any F j bf W h ok hb h1 h2)
  have hal2 : al ≤ 72000 := by rw [hal]; exact Nat.le_trans (Nat.mul_le_mul ha2 hm2) (by omega)
  have CL := Lib.hid (fun W => lcm_nat F.cn m W hc (by omega) (by omega) (by omega) (by omega))
  rw [hl] at CL
  obtain ⟨P, N, co, cn, cc, oo, on, oc, cs, os⟩ := F
  obtain rfl : N = (cn : Int) := hN
  have HF : Hid (Fv.At ⟨P, (cn : Int), co, cn, cc, oo, on, oc, cs, os⟩ w) := Lib.hid hF
  have CS := Lib.hid (fun W (h : Fv.At ⟨P, (cn : Int), co, cn, cc, oo, on, oc, cs, os⟩ W) => size_any ⟨0, 0, co, cn, cc, none, 0, 0, cs, []⟩ W ⟨(show (-9223372036854775808 : Int) ≤ 0 by omega), (show (0 : Int) ≤ 9223372036854775807 by omega), (show (-9223372036854775808 : Int) ≤ 0 by omega), (show (0 : Int) ≤ 9223372036854775807 by omega), h.core, ⟨rfl, Nat.le_refl _, (show 0 ≤ 9223372036854775807 by omega), fun _ => ⟨rfl, rfl⟩, fun h => absurd h (Nat.lt_irrefl _)⟩, ⟨h.short.1, fun o h => by cases h⟩⟩ (show cn ≤ 100000 from Nat.le_trans hc2 (by omega)) (show 0 ≤ 100000 by omega))
  have CS : Hid (∀ W, Fv.At ⟨P, (cn : Int), co, cn, cc, oo, on, oc, cs, os⟩ W → Calls Try.prog 41 #[.agg #[.int .i64 0, .int .i64 0, .slice co cn cc, .slice none 0 0]] W fun e w' => e = .returned (.int .i64 ((lens cs : Nat) : Int)) ∧ Below W.heap.size W w') := CS
  have LC : Hid (cs.length = cn) := Lib.hid hF.core.len
  have hlen : lens cs ≤ 12000 := by have h := lens_le hs; have e := LC.out; dsimp only at h; rw [e] at h; have : cn * 1000 ≤ 12 * 1000 := Nat.mul_le_mul_right _ hc2; omega
  have HS := Lib.hid hs
  have hc : 0 < cn := hc
  have hc2 : cn ≤ 12 := hc2
  have hp1 : 1 ≤ P := hp1
  have hp2 : P ≤ 1099511627776 := hp2
  replace hak : al = cn * k := hak
  have HAL : Hid (al = a * m ∧ al = cn * k) := Lib.hid ⟨hal, hak⟩
  have q1 : (al : Int) / (cn : Int) = (k : Int) := by rw [hak, Int.natCast_mul]; exact Int.mul_ediv_cancel_left _ (by omega)
  have q2 : (al : Int) / (m : Int) = (a : Int) := by rw [hal, Int.natCast_mul]; exact Int.mul_ediv_cancel _ (by omega)
  obtain ⟨L, hL⟩ : ∃ z, lens cs = z := ⟨_, rfl⟩
  rw [hL] at CS hlen
  have HL := Lib.hid hL
  have hkL : k * L ≤ 72000000 := Nat.le_trans (Nat.mul_le_mul hk2 hlen) (by omega)
  have hkP : P * (k : Int) ≤ 1099511627776 * 6000 := Int.le_trans (Int.mul_le_mul_of_nonneg_right hp2 (by omega)) (Int.mul_le_mul_of_nonneg_left (by omega) (by omega))
  have hkP0 : 0 ≤ P * (k : Int) := Int.mul_nonneg (by omega) (by omega)
  clear hF ok hL hs hl hal hak
  obtain ⟨b, hb⟩ : ∃ b, w.heap.size = b := ⟨_, rfl⟩
  obtain ⟨r, hr'⟩ : ∃ z, b + 1 = z := ⟨_, rfl⟩
  obtain ⟨wb, hwb⟩ : ∃ z, ((w.alloc (.cells #[.int .i64 P, .int .i64 (cn : Int), .slice co cn cc, .slice oo on oc] 25)).alloc (.cells #[.int .i64 0, .int .i64 0, .slice none 0 0, .slice none 0 0] 25)) = z := ⟨_, rfl⟩
  have KB : Hid (Below w.heap.size w wb) := Lib.hid (by rw [← hwb]; exact ((Below.refl _ w).alloc (Nat.le_refl _) _).alloc (by simp) _)
  have B0 : Hid (wb.heap[b]? = some (.cells #[.int .i64 P, .int .i64 (cn : Int), .slice co cn cc, .slice oo on oc] 25 (0, 0))) := Lib.hid (by rw [← hwb]; exact (Below.heap_alloc _ _ _ (by simp; omega)).trans (heap_at hb))
  have B1 : Hid (wb.heap[r]? = some (.cells #[.int .i64 0, .int .i64 0, .slice none 0 0, .slice none 0 0] 25 (0, 0))) := Lib.hid (by rw [← hwb]; exact heap_at (by simp; omega))
  have HRD : Hid (w.heap.size ≤ b ∧ b < r) := Lib.hid (by omega)
  show Calls Try.prog 23 #[.agg #[.int .i64 P, .int .i64 (cn : Int), .slice co cn cc, .slice oo on oc], .int .i64 (m : Int)] w _
  have HX := Lib.hid hwb
  have HX0 := Lib.hid hb
  have HX1 := Lib.hid hr'
  clear hwb hb hr'
  go_enter Try.func23, Try.ntmps23
  go_upto_region 1 with fail
  try rw [HX.out]
  try rw [HX0.out]
  try rw [HX1.out]
  clear HX HX0 HX1
  have c0 := cell_block B0.out 0
  have c1 := cell_block B0.out 1
  have c2 := cell_block B0.out 2
  have c3 := cell_block B0.out 3
  have nz : ((cn : Int) == 0) = false := by simp; omega
  go_wp2_with fail
  (with_reducible refine (CL.out _).mono ?_)
  rintro e w1 ⟨rfl, q⟩
  have KB1 := Lib.hid (KB.out.trans (q.mono KB.out.size))
  have B0b := Lib.hid (heap_keep B0.out q)
  have B1b := Lib.hid (heap_keep B1.out q)
  clear q c0 c1 c2 c3 KB B0 B1 CL
  have c0 := cell_block B0b.out 0
  have c1 := cell_block B0b.out 1
  have c2 := cell_block B0b.out 2
  have c3 := cell_block B0b.out 3
  go_wp2_with fail
  (with_reducible refine (CS.out _ (HF.out.keep KB1.out)).mono ?_)
  rintro e w2 ⟨rfl, q⟩
  have KB2 := Lib.hid (KB1.out.trans (q.mono KB1.out.size))
  have B0c := Lib.hid (heap_keep B0b.out q)
  have B1c := Lib.hid (heap_keep B1b.out q)
  clear q c0 c1 c2 c3 KB1 B0b B1b CS
  have e1 : 0 ≤ (k : Int) * (L : Int) := Int.mul_nonneg (by omega) (by omega)
  have e2 : (k : Int) * (L : Int) ≤ 72000000 := by rw [← Int.natCast_mul]; omega
  by_cases lg : 60000 < k * L
  · have e3 : (60000 : Int) < (k : Int) * (L : Int) := by rw [← Int.natCast_mul]; omega
    have HLG : Hid (60000 < k * lens cs) := Lib.hid (by rw [HL.out]; exact lg)
    clear lg
    have r0 := cell_block B1c.out 0
    have r1 := cell_block B1c.out 1
    have r2 := cell_block B1c.out 2
    have r3 := cell_block B1c.out 3
    have f0 := free_blk B1c.out 0
    have f1 := free_blk B1c.out 1
    have f2 := free_blk B1c.out 2
    have f3 := free_blk B1c.out 3
    go_wp2_with fail
    have RP := Lib.hid (res_put4 B1c.out KB2.out (by have := HRD.out; omega) (.int .i64 0) (.int .i64 0) (.slice none 0 0) (.slice none 0 0))
    obtain ⟨we, hwe⟩ : ∃ we, (((w2.setCell ⟨r, 0, none⟩ (.int .i64 0)).setCell ⟨r, 1, none⟩ (.int .i64 0)).setCell ⟨r, 2, none⟩ (.slice none 0 0)).setCell ⟨r, 3, none⟩ (.slice none 0 0) = we := ⟨_, rfl⟩
    rw [hwe] at RP ⊢
    clear r0 r1 r2 r3 f0 f1 f2 f3 hwe
    have r0 := cell_block RP.out.1 0
    have r1 := cell_block RP.out.1 1
    have r2 := cell_block RP.out.1 2
    have r3 := cell_block RP.out.1 3
    exact bodyPost_ret (v := .tuple #[.agg #[(.int .i64 0), (.int .i64 0), (.slice none 0 0), (.slice none 0 0)], .int .i64 3]) (by simp [results, Try.results23, go_sem, r0, r1, r2, r3]) rfl (⟨.inl ⟨HLG.out, rfl⟩, Lib.hid RP.out.2.1⟩)
  · have e3 : ¬ (60000 : Int) < (k : Int) * (L : Int) := by rw [← Int.natCast_mul]; omega
    have HLG : Hid (k * lens cs ≤ 60000) := Lib.hid (by rw [HL.out]; omega)
    clear lg
    have c0 := cell_block B0c.out 0
    have c1 := cell_block B0c.out 1
    have c2 := cell_block B0c.out 2
    have c3 := cell_block B0c.out 3
    go_wp2_with fail
    have nm : ((m : Int) == 0) = false := by simp; omega
    have nm2 : ¬ m = 0 := by omega
    have c0a : (w2.alloc (.cells #[.int .i64 0, .int .i64 0, .slice none 0 0, .slice none 0 0] 25)).cell? ⟨b, 0, none⟩ = some (.int .i64 P) := cell_keep c0 ((Below.refl _ w2).alloc (Nat.le_refl _) _)
    go_region
    obtain ⟨g, hg⟩ : ∃ z, w2.heap.size = z := ⟨_, rfl⟩
    obtain ⟨PK, hPK⟩ : ∃ z, P * (k : Int) = z := ⟨_, rfl⟩
    have HPK := Lib.hid hPK
    rw [hPK] at hkP hkP0 ⊢
    obtain ⟨w3, hw3⟩ : ∃ z, (w2.alloc (.cells #[.int .i64 PK, .int .i64 (a : Int), .slice none 0 0, .slice none 0 0] 25)).drew = z := ⟨_, rfl⟩
    have K3 : Below w2.heap.size w2 w3 := by rw [← hw3]; exact ((Below.refl _ w2).alloc (Nat.le_refl _) _).drew
    have HG3 : Hid (w3.heap[g]? = some (.cells #[.int .i64 PK, .int .i64 (a : Int), .slice none 0 0, .slice none 0 0] 25 (0, 0))) := Lib.hid (by rw [← hw3]; exact heap_at hg)
    have KB3 := Lib.hid (KB2.out.trans (K3.mono KB2.out.size))
    have B0d := Lib.hid (heap_keep B0c.out K3)
    have B1d := Lib.hid (heap_keep B1c.out K3)
    have HRG : Hid (r < g ∧ w3.heap.size = g + 1) := Lib.hid ⟨by have := (Array.getElem?_eq_some_iff.1 B1c.out).1; omega, by rw [← hw3, ← hg]; simp [World.drew]⟩
    rw [hw3, hg]
    clear hw3 hg K3 KB2 B0c B1c c0 c1 c2 c3 c0a hPK
    have g0 := cell_block HG3.out 0
    have g1 := cell_block HG3.out 1
    have g2 := cell_block HG3.out 2
    have g3 := cell_block HG3.out 3
    by_cases pl : 1099511627776 < PK
    · have pt : decide ((1099511627776 : Int) < PK) = true := by simp; exact pl
      have HPL : Hid (1099511627776 < P * (k : Int)) := Lib.hid (by rw [HPK.out]; exact pl)
      have r0 := cell_block B1d.out 0
      have r1 := cell_block B1d.out 1
      have r2 := cell_block B1d.out 2
      have r3 := cell_block B1d.out 3
      have f0 := free_blk B1d.out 0
      have f1 := free_blk B1d.out 1
      have f2 := free_blk B1d.out 2
      have f3 := free_blk B1d.out 3
      clear pl
      go_wp2_with fail
      have RP := Lib.hid (res_put4 B1d.out KB3.out (by have := HRD.out; omega) (.int .i64 0) (.int .i64 0) (.slice none 0 0) (.slice none 0 0))
      obtain ⟨we, hwe⟩ : ∃ we, (((w3.setCell ⟨r, 0, none⟩ (.int .i64 0)).setCell ⟨r, 1, none⟩ (.int .i64 0)).setCell ⟨r, 2, none⟩ (.slice none 0 0)).setCell ⟨r, 3, none⟩ (.slice none 0 0) = we := ⟨_, rfl⟩
      rw [hwe] at RP ⊢
      clear r0 r1 r2 r3 f0 f1 f2 f3 hwe
      have r0 := cell_block RP.out.1 0
      have r1 := cell_block RP.out.1 1
      have r2 := cell_block RP.out.1 2
      have r3 := cell_block RP.out.1 3
      exact bodyPost_ret (v := .tuple #[.agg #[(.int .i64 0), (.int .i64 0), (.slice none 0 0), (.slice none 0 0)], .int .i64 20]) (by simp [results, Try.results23, go_sem, r0, r1, r2, r3]) rfl (⟨.inr (.inl ⟨HLG.out, .inl HPL.out, rfl⟩), Lib.hid RP.out.2.1⟩)
    · have pt : decide ((1099511627776 : Int) < PK) = false := by simp; omega
      have HPL : Hid (P * (k : Int) ≤ 1099511627776) := Lib.hid (by rw [HPK.out]; omega)
      clear pl
      obtain ⟨n₁, hn1⟩ : ∃ z, w3.heap.size = z := ⟨_, rfl⟩
      have HN1 := Lib.hid hn1
      rw [hn1] at HRG
      have HCO : Hid (CoOwn w3 n₁ (.slice none 0 0) 0 ((grpCs cs P (cn : Int) m a).take 0)) := Lib.hid ⟨rfl, [], World.ownsRow_nil _ _ _ _, fun i h => absurd h (Nat.not_lt_zero i)⟩
      have HGW : Hid (GcW w w3 b r g n₁ PK (a : Int) #[.int .i64 P, .int .i64 (cn : Int), .slice co cn cc, .slice oo on oc] (.slice none 0 0)) := Lib.hid ⟨KB3.out, by rw [hn1]; exact Nat.le_refl _, B0d.out, B1d.out, HG3.out, HRD.out.1, HRD.out.2, HRG.out.1, by have := HRG.out; omega⟩
      clear hn1 KB3 B0d B1d HG3
      go_wp2_with fail
      clear g0 g1 g2 g3
      go_loopw [10, 11, 12, 50] (fun s10 s11 s12 ii wr => ∃ (i : Nat) (vc : Value), i ≤ a ∧ ii = .int .i64 i ∧ Hid (GcW w wr b r g n₁ PK (a : Int) #[.int .i64 P, .int .i64 (cn : Int), .slice co cn cc, .slice oo on oc] vc) ∧ Hid (CoOwn wr n₁ vc i ((grpCs cs P (cn : Int) m a).take i)) ∧ Hid (∀ i', i' < i → ∀ j, j < m → Fit (cg cs P (cn : Int) ((i' : Int) * (m : Int) + (j : Int))))) (fun s10 s11 s12 ii _ => a - (intOf ii).toNat)
      case atStart => exact ⟨0, .slice none 0 0, Nat.zero_le _, rfl, HGW, HCO, Lib.hid (fun i' h => absurd h (Nat.not_lt_zero _))⟩
      case round =>
        clear HGW HCO
        obtain ⟨i, vc, hi, rfl, HGW, HCO, HFT⟩ := hrel
        by_cases ilt : i < a
        · have i1 : (i : Int) < (a : Int) := by omega
          have HSR : Hid (∀ j, j < m → -4611686018427387904 ≤ (i : Int) * (m : Int)) := Lib.hid (fun j _ => by have : 0 ≤ (i : Int) * (m : Int) := Int.mul_nonneg (by omega) (by omega); omega)
          have im0 : 0 ≤ (i : Int) * (m : Int) := Int.mul_nonneg (by omega) (by omega)
          have im1 : (i : Int) * (m : Int) ≤ 12 * 6000 := by rw [← Int.natCast_mul]; have : i * m ≤ 12 * 6000 := Nat.mul_le_mul (by omega) hm2; omega
          have CC := Lib.hid (collect49_any (cg cs P (cn : Int)) (fun j => Fit (cg cs P (cn : Int) j)) ((i : Int) * (m : Int)) 60000 m b wr (fun W j hW h1 h2 => CT.out W j b (HF.out.keep (HGW.out.bw.trans (hW.mono HGW.out.bw.size))) (heap_keep HGW.out.b0 hW) (by omega) (by omega)) (fun j h => h) (fun j => Nat.le_trans (cg_len_le HS.out j) (by omega)) (by omega) (by omega) (by omega) (by omega) (by omega))
          go_wp2_with fail
          (with_reducible refine CC.out.mono ?_)
          rintro e wv ⟨v, kk, rfl, q, hv⟩
          have HQ := Lib.hid q
          have HGV := Lib.hid (HGW.out.keep q.out)
          have HCV := Lib.hid (HCO.out.keep q.out)
          have HSV : Hid (n₁ ≤ wr.heap.size) := Lib.hid HGW.out.sz
          clear q CC HGW HCO HSR im0 im1
          rcases hv.out with ⟨hok, hk, hrow⟩ | ⟨hok, hk, hv0⟩
          · subst hk
            obtain ⟨ao, nc, rfl, hsp⟩ := own_sp rfl hrow
            obtain ⟨nn, hnn⟩ : ∃ z, (colF 60000 (many (cg cs P (cn : Int)) ((i : Int) * (m : Int)) m)).length = z := ⟨_, rfl⟩
            rw [hnn]
            have HROW := Lib.hid hrow
            have HNN := Lib.hid hnn
            have HOK : Hid (∀ i', i' < i + 1 → ∀ j, j < m → Fit (cg cs P (cn : Int) ((i' : Int) * (m : Int) + (j : Int)))) := Lib.hid (fun i' h j hj => by
              rcases Nat.lt_succ_iff_lt_or_eq.1 h with h | h
              · exact HFT.out i' h j hj
              · rw [h]; exact hok j hj)
            obtain ⟨xs, hown, hinn⟩ := HCV.out.row
            have HOWN := Lib.hid hown
            have HINN := Lib.hid hinn
            clear hok hrow hsp hnn hv hown hinn
            have p2 : wv.cell? ⟨g, 2, none⟩ = some vc := cell_block HGV.out.g_ 2
            have p2f : wv.frozen? ⟨g, 2, none⟩ = false := free_blk HGV.out.g_ 2
            obtain ⟨i0, hi0, hz0, hz1, hz2⟩ := info_parts info34s
            have HI3 := Lib.hid hi0
            have HZ0 := Lib.hid hz0
            have HZ1 := Lib.hid hz1
            have HZ2 := Lib.hid hz2
            clear hi0 hz0 hz1 hz2
            go_wp2_with (at_builtin; refine wpList_append_own _ rfl _ _ 22 rfl n₁ 34 i0 (.slice none 0 0) 1 24 Try.underlying22 HI3.out HZ0.out HZ1.out HZ2.out rfl (by decide) _ _ _ rfl (keepB HOWN.out ((Below.refl _ _).alloc (Nat.le_refl _) _)) ⟨wv.heap.size, 0, none⟩ 1 1 [.slice ao nn nc] rfl rfl (World.news_of_block (cs := #[.slice ao nn nc]) (t := 34) (fr := (0, 0)) (World.alloc_heap_new wv _)) (by intro y hy; simp at hy; subst hy; rfl) (by unfold maxLen; omega) (by omega) (by have := HGV.out.sz; simp; omega) ?_; intro v' w8 hown' hgrow _; obtain ⟨g', cap', rfl⟩ := ownsRow_succ hown'; have HA8 := Lib.hid ((HGV.out.keep ((Below.refl _ wv).alloc (Nat.le_refl _) (.cells #[.slice ao nn nc] 34))).grown hgrow (fun r e => (HOWN.out.lt r e).1)); have HN8 := Lib.hid hown'; have HG8 := Lib.hid hgrow; have p2' : w8.cell? ⟨g, 2, none⟩ = some vc := cell_block HA8.out.g_ 2; have q2' : w8.frozen? ⟨g, 2, none⟩ = false := free_blk HA8.out.g_ 2; clear hown' hgrow)
            have HPU := Lib.hid (HA8.out.put (.slice (some ⟨g', 0, none⟩) (i + 1) cap'))
            have HCN : Hid (CoOwn (w8.setCell ⟨g, 2, none⟩ (.slice (some ⟨g', 0, none⟩) (i + 1) cap')) n₁ (.slice (some ⟨g', 0, none⟩) (i + 1) cap') (i + 1) ((grpCs cs P (cn : Int) m a).take (i + 1))) := Lib.hid (by
              have ta := keepB HOWN.out ((Below.refl _ wv).alloc (Nat.le_refl _) (.cells #[.slice ao nn nc] 34))
              have off : Off (wv.alloc (.cells #[.slice ao nn nc] 34)) n₁ 50 vc.ownBlock := fun q e => by
                obtain ⟨cur, t⟩ := own_typed ta e
                exact .inr ⟨cur, 34, t, by decide⟩
              have mv : ∀ {u : Value} {l : List Sp}, wv.ownsRow n₁ 50 2 u l.length (spCells l) → w8.ownsRow n₁ 50 2 u l.length (spCells l) := fun h => own_off (keepB h ((Below.refl _ wv).alloc (Nat.le_refl _) _)) HG8.out off
              have hr0 := own_base HROW.out HSV.out
              have c8 := co_snoc (u := .slice ao nn nc) (l := grpS (cg cs P (cn : Int)) m (i : Int)) HCV.out.len HN8.out (fun i hi => by obtain ⟨u, h1, h2⟩ := HINN.out i hi; exact ⟨u, h1, mv h2⟩) (mv (by rw [← HNN.out]; exact hr0))
              have ht : (grpCs cs P (cn : Int) m a).take (i + 1) = (grpCs cs P (cn : Int) m a).take i ++ [grpS (cg cs P (cn : Int)) m (i : Int)] := by
                rw [List.take_succ_eq_append_getElem (by rw [grpCs_len]; exact ilt)]
                simp [grpCs]
              rw [ht]
              exact c8.grown (grown_cell w8 ⟨g, 2, none⟩ _) (fun q e => .inl (by cases e; exact HA8.out.hi)) (fun q e => .inl (by cases e; exact HA8.out.hi)))
            go_roundw
            case rel => exact ⟨i + 1, _, by omega, by simp, HPU, HCN, HOK⟩
            case measure => simp [intOf]; omega
          · subst hk
            have HNO : Hid (¬ ∀ i, i < a → ∀ j, j < m → Fit (cg cs P (cn : Int) ((i : Int) * (m : Int) + (j : Int)))) := Lib.hid (fun h => hok (h i ilt))
            clear hok hv hv0
            have r0 := cell_block HGV.out.b1 0
            have r1 := cell_block HGV.out.b1 1
            have r2 := cell_block HGV.out.b1 2
            have r3 := cell_block HGV.out.b1 3
            have f0 := free_blk HGV.out.b1 0
            have f1 := free_blk HGV.out.b1 1
            have f2 := free_blk HGV.out.b1 2
            have f3 := free_blk HGV.out.b1 3
            go_wp2_with fail
            have RP := Lib.hid (res_put4 HGV.out.b1 HGV.out.bw (by have := HRD.out; omega) (.int .i64 0) (.int .i64 0) (.slice none 0 0) (.slice none 0 0))
            obtain ⟨we, hwe⟩ : ∃ we, (((wv.setCell ⟨r, 0, none⟩ (.int .i64 0)).setCell ⟨r, 1, none⟩ (.int .i64 0)).setCell ⟨r, 2, none⟩ (.slice none 0 0)).setCell ⟨r, 3, none⟩ (.slice none 0 0) = we := ⟨_, rfl⟩
            rw [hwe] at RP ⊢
            clear r0 r1 r2 r3 f0 f1 f2 f3 hwe
            have r0 := cell_block RP.out.1 0
            have r1 := cell_block RP.out.1 1
            have r2 := cell_block RP.out.1 2
            have r3 := cell_block RP.out.1 3
            exact bodyPost_ret (v := .tuple #[.agg #[(.int .i64 0), (.int .i64 0), (.slice none 0 0), (.slice none 0 0)], .int .i64 20]) (by simp [results, Try.results23, go_sem, r0, r1, r2, r3]) rfl (⟨.inr (.inl ⟨HLG.out, .inr HNO.out, rfl⟩), Lib.hid RP.out.2.1⟩)
        · obtain rfl : a = i := by omega
          obtain ⟨xo, xk, rfl, _⟩ := HCO.out.vs
          have g0 := cell_block HGW.out.g_ 0
          have g1 := cell_block HGW.out.g_ 1
          have g2 := cell_block HGW.out.g_ 2
          have g3 := cell_block HGW.out.g_ 3
          have r0 := cell_block HGW.out.b1 0
          have r1 := cell_block HGW.out.b1 1
          have r2 := cell_block HGW.out.b1 2
          have r3 := cell_block HGW.out.b1 3
          have f0 := free_blk HGW.out.b1 0
          have f1 := free_blk HGW.out.b1 1
          have f2 := free_blk HGW.out.b1 2
          have f3 := free_blk HGW.out.b1 3
          go_wp2_with fail
          clear g0 g1 g2 g3
          have RP := Lib.hid (res_put4 HGW.out.b1 HGW.out.bw (by have := HRD.out; omega) (.int .i64 PK) (.int .i64 (a : Int)) (.slice xo a xk) (.slice none 0 0))
          have HCE : Hid (CoOwn _ w.heap.size (.slice xo a xk) a (grpCs cs P (cn : Int) m a)) := Lib.hid (by have h := HCO.out.grown RP.out.2.2 (fun q e => .inl (by cases e; have := HGW.out.mid; have := HGW.out.hi; omega)) (fun q e => .inl (by cases e; have := HGW.out.mid; have := HGW.out.hi; omega)); rw [List.take_of_length_le (by rw [grpCs_len]; exact Nat.le_refl _)] at h; exact h.mono (by have := HGW.out.lo; have := HGW.out.br; have := HGW.out.mid; have := HGW.out.hi; omega))
          obtain ⟨we, hwe⟩ : ∃ we, (((wr.setCell ⟨r, 0, none⟩ (.int .i64 PK)).setCell ⟨r, 1, none⟩ (.int .i64 (a : Int))).setCell ⟨r, 2, none⟩ (.slice xo a xk)).setCell ⟨r, 3, none⟩ (.slice none 0 0) = we := ⟨_, rfl⟩
          rw [hwe] at RP HCE ⊢
          clear r0 r1 r2 r3 f0 f1 f2 f3 hwe
          have r0 := cell_block RP.out.1 0
          have r1 := cell_block RP.out.1 1
          have r2 := cell_block RP.out.1 2
          have r3 := cell_block RP.out.1 3
          exact bodyPost_ret (v := .tuple #[.agg #[(.int .i64 PK), (.int .i64 (a : Int)), (.slice xo a xk), (.slice none 0 0)], .int .i64 0]) (by simp [results, Try.results23, go_sem, r0, r1, r2, r3]) rfl (⟨.inr (.inr ⟨HLG.out, HPL.out, HFT.out, xo, xk, by rw [HPK.out], HCE.out⟩), Lib.hid RP.out.2.1⟩)
end Go.Proofs.Ytmjapbjjfhmohaa
