/- FindLong: the walk. -/
import Derived.Test.YtjhbgedobkpdhaaEg
namespace Go.Proofs.Ytjhbgedobkpdhaa
set_option linter.unusedVariables false
set_option linter.unusedSimpArgs false
open Go.ChangeShapes Go.WideShapes Go.ChangeAt Go.RowKit
abbrev oneF (co : Option Addr) (cc : Nat) : Fv := ⟨1, 1, co, 1, cc, none, 0, 0, [[(0, 0)]], []⟩
theorem good00 : Good [(0, 0)] := by simp [Good, Rt]
theorem rt_one (co : Option Addr) (cc : Nat) : (oneF co cc).Rt := by
  refine ⟨.inr ⟨(show (1 : Int) ≠ 0 by decide), rfl, (show (1 : Int) ≤ 1 by decide), (show (1 : Int) ≤ 1099511627776 by decide)⟩, fun l hl => ?_, oddOk_nil, ⟨by simp, fun a ha b hb s hs u hu => by simp at ha hb; subst ha hb; simp at hs hu; subst hs hu; simp⟩, fun i => ⟨fun h => ?_, fun h => ?_⟩⟩
  · simp at hl; rw [hl]; exact good00
  · exact absurd h (Nat.not_lt_zero _)
  · exact absurd h (Nat.not_lt_zero _)
theorem okO (co : Option Addr) (cc : Nat) : (oneF co cc).Ok := (rt_one co cc).ok ⟨(show 1 ≤ 12 by decide), (show 0 ≤ 8 by decide), (show lens [[(0, 0)]] + lens (tks []) ≤ 60 by decide)⟩
theorem one_gr (co : Option Addr) (cc : Nat) (k : Int) : gr (oneF co cc) k = [(k, k)] := by
  show cg [[(0, 0)]] 1 1 k = _
  rw [cg_in (cs := [[(0, 0)]]) (P := 1) (N := 1) ⟨by decide, rfl⟩]
  have e1 : k.fmod 1 = 0 := by have := fmod_nat k (N := 1) (by decide); omega
  have e2 : k.fdiv 1 = k := by have := fmod_eq k 1; omega
  unfold cset
  rw [e1, e2]
  simp [moved]
theorem one_ex {co : Option Addr} {cc : Nat} {k : Int} (h1 : -4000000000 ≤ k) (h2 : k ≤ 4000000000) : Ex (oneF co cc) k := ⟨⟨by omega, by omega⟩, by rw [one_gr]; intro s hs; simp at hs; subst hs; simp only; omega, by rw [one_gr]; simp⟩
theorem one_mem (co : Option Addr) (cc : Nat) (k t : Int) : mem (gr (oneF co cc) k) t ↔ t = k := by rw [one_gr, mem_one]; simp only; omega
theorem runs_inc (a : Int) (n : Nat) : ((List.range n).map (fun (i : Nat) => a + (i : Int))).Pairwise (· < ·) := by
  rw [List.pairwise_map]
  refine List.Pairwise.imp ?_ List.pairwise_lt_range
  intro x y h; omega
theorem good_pair {a b : Int} (h1 : -4000000000 ≤ a) (h2 : a + 1 < b) (h3 : b ≤ 4000000000) : Good [(a, a), (b, b)] := by
  simp [Good, Rt]; omega
theorem long_ok {co : Option Addr} {cc : Nat} {a : Int} {xs : List Int} {k : Int} (h1 : -2147483648 ≤ a) (h2 : a ≤ 2147483647) {z : Int} (hz : z = a + 59999) (h : OverIs (oneF co cc) [(a, a), (z, z)] xs k) : k = 0 ∧ xs = [a, z] := by
  subst hz
  obtain ⟨x, b, c⟩ := over_few h (good_pair (by omega) (by omega) (by omega)) (zs := (List.range 60000).map (fun (i : Nat) => a + (i : Int))) (runs_inc a _) (by rw [List.length_map, List.length_range]; exact Nat.le_refl _) (fun i _ ⟨t, m, g1, g2⟩ => by
    have m := (one_mem _ _ _ _).1 m
    have g1 : a ≤ t := g1
    have g2 : t ≤ a + 59999 := g2
    refine List.mem_map.2 ⟨(i - a).toNat, List.mem_range.2 (by omega), by omega⟩)
  refine ⟨x, sorted_eq b (by simp; omega) (fun i => ?_)⟩
  rw [c i]
  constructor
  · rintro ⟨_, t, m, n⟩
    have m := (one_mem _ _ _ _).1 m
    obtain ⟨s, hs, n1, n2⟩ := n
    simp at hs
    rcases hs with rfl | rfl
    · simp only at n1 n2; simp; omega
    · simp only at n1 n2; simp; omega
  · intro q
    simp at q
    rcases q with rfl | rfl
    · exact ⟨one_ex (by omega) (by omega), i, (one_mem _ _ _ _).2 rfl, ⟨_, List.mem_cons_self, Int.le_refl _, Int.le_refl _⟩⟩
    · exact ⟨one_ex (by omega) (by omega), a + 59999, (one_mem _ _ _ _).2 rfl, ⟨_, List.mem_cons_of_mem _ List.mem_cons_self, Int.le_refl _, Int.le_refl _⟩⟩
theorem long_bad {co : Option Addr} {cc : Nat} {a z : Int} {xs : List Int} {k : Int} (h1 : -2147483648 ≤ a) (h2 : a ≤ 2147483647) (h3 : a + 60000 ≤ z) (h4 : z ≤ 4000000000) (h : OverIs (oneF co cc) [(a, a), (z, z)] xs k) : k = 3 ∧ xs = [] := by
  rcases h with ⟨_, _, g⟩ | ⟨_, _, _, _, u⟩ | ⟨_, x, y, _⟩
  · exact absurd (good_pair (by omega) (by omega) (by omega)) g
  · have := u (by simp) ((List.range 60001).map (fun (i : Nat) => a + (i : Int))) (runs_inc a _) (fun i hi => by
      obtain ⟨j, hj, rfl⟩ := List.mem_map.1 hi
      have := List.mem_range.1 hj
      exact ⟨one_ex (by omega) (by omega), a + j, (one_mem _ _ _ _).2 rfl, (show a ≤ a + (j : Int) by omega), (show a + (j : Int) ≤ z by omega)⟩)
    rw [List.length_map, List.length_range] at this
    omega
  · exact ⟨x, y⟩
theorem one_at {W : World} {g1 g2 : Nat} (h1 : W.heap[g1]? = some (.cells #[.int .i64 0, .int .i64 0] 33 (0, 0))) (h2 : W.heap[g2]? = some (.cells #[.slice (some ⟨g1, 0, none⟩) 1 1] 28 (0, 0))) : (oneF (some ⟨g2, 0, none⟩) 1).At W :=
  ⟨(show (-9223372036854775808 : Int) ≤ 1 by decide), (show (1 : Int) ≤ 9223372036854775807 by decide), (show (-9223372036854775808 : Int) ≤ 1 by decide), (show (1 : Int) ≤ 9223372036854775807 by decide),
   ⟨rfl, Nat.le_refl _, (show 1 ≤ 9223372036854775807 by decide), (fun e => by cases e), fun _ => ⟨g2, 0, rfl, fun i hi => by
      obtain rfl : i = 0 := by simpa using hi
      exact ⟨_, _, _, cell_block h2 0, sp_one h1⟩⟩⟩,
   ⟨rfl, Nat.le_refl _, (show 0 ≤ 9223372036854775807 by decide), fun _ => ⟨rfl, rfl⟩, fun h => absurd h (Nat.lt_irrefl _)⟩,
   ⟨(fun l hl => by simp at hl; subst hl; decide), fun o ho => by cases ho⟩⟩
theorem sp_two {W : World} {g : Nat} {a b c d : Int} (h : W.heap[g]? = some (.cells #[.int .i64 a, .int .i64 b, .int .i64 c, .int .i64 d] 33 (0, 0))) : SpAt W (some ⟨g, 0, none⟩) 2 2 [(a, b), (c, d)] :=
  ⟨rfl, Nat.le_refl _, (show 2 ≤ 9223372036854775807 by decide), (fun e => by cases e), fun _ => ⟨g, 0, rfl, fun i hi => by
    match i, hi with
    | 0, _ => exact ⟨cell_block h 0, cell_block h 1⟩
    | 1, _ => exact ⟨cell_block h 2, cell_block h 3⟩⟩⟩
set_option maxRecDepth 8000 in
set_option maxHeartbeats 4000000 in
theorem long_walk (a m : Int) (w : World) (h1 : -2147483648 ≤ a) (h2 : a ≤ 2147483647) (h3 : 0 ≤ m) (h4 : m ≤ 255) : Calls Try.prog 7 #[.int .i32 a, .int .u8 m] w fun e w' => e = .returned (.bool true) ∧ Below w.heap.size w w' := by
  have HAW := Lib.hid (fun W => awake_any W)
  go_enter Try.func7, Try.ntmps7
  go_upto_region 1 with fail
  obtain ⟨g1, hg1⟩ : ∃ g, w.heap.size = g := ⟨_, rfl⟩
  obtain ⟨g2, hg2⟩ : ∃ g, g1 + 1 = g := ⟨_, rfl⟩
  obtain ⟨b, hb⟩ : ∃ g, g2 + 1 = g := ⟨_, rfl⟩
  go_upto_region 2 with fail
  obtain ⟨v2, hv2⟩ : ∃ v, ((w.alloc (.cells #[.int .i64 0, .int .i64 0] 33)).alloc (.cells #[.slice (some ⟨g1, 0, none⟩) 1 1] 28)).alloc (.cells #[.int .i64 1, .int .i64 1, .slice (some ⟨g2, 0, none⟩) 1 1, .slice none 0 0] 25) = v := ⟨_, rfl⟩
  have K2 : Below w.heap.size w v2 := by rw [← hv2]; exact (((Below.refl _ w).alloc (Nat.le_refl _) _).alloc (by simp) _).alloc (by simp; omega) _
  have al : ∀ (W : World) (o : Obj) (j : Nat), j < W.heap.size → (W.alloc o).heap[j]? = W.heap[j]? := fun W o j hj => Below.heap_alloc W o j hj
  have HAT : Hid ((oneF (some ⟨g2, 0, none⟩) 1).At v2) := Lib.hid (one_at (g1 := g1) (by rw [← hv2, al _ _ _ (by simp; omega), al _ _ _ (by simp; omega)]; exact heap_at hg1) (by rw [← hv2, al _ _ _ (by simp; omega)]; exact heap_at (by simp; omega)))
  have HBX : Hid (v2.heap[b]? = some (.cells #[.int .i64 1, .int .i64 1, .slice (some ⟨g2, 0, none⟩) 1 1, .slice none 0 0] 25 (0, 0))) := Lib.hid (by rw [← hv2]; exact heap_at (by simp; omega))
  have HW : Hid (Below w.heap.size w v2) := Lib.hid K2
  clear al K2
  rw [hv2]
  clear hv2 hb hg1 hg2
  have CO1 : Hid (∀ W g, (oneF (some ⟨g2, 0, none⟩) 1).At W → W.heap[g]? = some (.cells #[.int .i64 a, .int .i64 a, .int .i64 (a + 60000 - 1), .int .i64 (a + 60000 - 1)] 33 (0, 0)) → Calls Try.prog 21 #[.agg #[.int .i64 1, .int .i64 1, .slice (some ⟨g2, 0, none⟩) 1 1, .slice none 0 0], .slice (some ⟨g, 0, none⟩) 2 2] W fun e w' => ∃ vo vc, e = .returned (.tuple #[.slice vo 2 vc, .int .i64 0]) ∧ Hid (IzAt w' vo 2 vc [a, a + 60000 - 1]) ∧ Hid (Below W.heap.size W w')) := Lib.hid (fun W g h k => (over_any (oneF (some ⟨g2, 0, none⟩) 1) (some ⟨g, 0, none⟩) 2 2 [(a, a), (a + 60000 - 1, a + 60000 - 1)] W h (rt_one _ _) (okO _ _) (show 1 ≤ 10000 by decide) (sp_two k) (by decide)).mono (by
    rintro e w' ⟨⟨v, xs, k, rfl, ho, hw⟩, q⟩
    obtain ⟨rfl, rfl⟩ := long_ok h1 h2 (by omega) ho
    obtain ⟨vo, vc, rfl, hz⟩ := own_iz hw
    exact ⟨vo, vc, rfl, Lib.hid hz, q⟩))
  have CO2 : Hid (∀ W g, (oneF (some ⟨g2, 0, none⟩) 1).At W → W.heap[g]? = some (.cells #[.int .i64 a, .int .i64 a, .int .i64 (a + 60000 + m), .int .i64 (a + 60000 + m)] 33 (0, 0)) → Calls Try.prog 21 #[.agg #[.int .i64 1, .int .i64 1, .slice (some ⟨g2, 0, none⟩) 1 1, .slice none 0 0], .slice (some ⟨g, 0, none⟩) 2 2] W fun e w' => ∃ vo vc, e = .returned (.tuple #[.slice vo 0 vc, .int .i64 3]) ∧ Hid (IzAt w' vo 0 vc []) ∧ Hid (Below W.heap.size W w')) := Lib.hid (fun W g h k => (over_any (oneF (some ⟨g2, 0, none⟩) 1) (some ⟨g, 0, none⟩) 2 2 [(a, a), (a + 60000 + m, a + 60000 + m)] W h (rt_one _ _) (okO _ _) (show 1 ≤ 10000 by decide) (sp_two k) (by decide)).mono (by
    rintro e w' ⟨⟨v, xs, k, rfl, ho, hw⟩, q⟩
    obtain ⟨rfl, rfl⟩ := long_bad h1 h2 (by omega) (by omega) ho
    obtain ⟨vo, vc, rfl, hz⟩ := own_iz hw
    exact ⟨vo, vc, rfl, Lib.hid hz, q⟩))
  have e0 : v2.cell? ⟨b, 0, none⟩ = some (.int .i64 1) := cell_block HBX.out 0
  have e1 : v2.cell? ⟨b, 1, none⟩ = some (.int .i64 1) := cell_block HBX.out 1
  have e2 : v2.cell? ⟨b, 2, none⟩ = some (.slice (some ⟨g2, 0, none⟩) 1 1) := cell_block HBX.out 2
  have e3 : v2.cell? ⟨b, 3, none⟩ = some (.slice none 0 0) := cell_block HBX.out 3
  obtain ⟨s2, hs2⟩ : ∃ s, v2.heap.size = s := ⟨_, rfl⟩
  obtain ⟨a2, ha2⟩ : ∃ w, v2.alloc (.cells #[.int .i64 a, .int .i64 a, .int .i64 (a + 60000 - 1), .int .i64 (a + 60000 - 1)] 33) = w := ⟨_, rfl⟩
  have KA : Below v2.heap.size v2 a2 := by rw [← ha2]; exact (Below.refl _ _).alloc (Nat.le_refl _) _
  have HG : Hid (a2.heap[s2]? = some (.cells #[.int .i64 a, .int .i64 a, .int .i64 (a + 60000 - 1), .int .i64 (a + 60000 - 1)] 33 (0, 0))) := Lib.hid (by rw [← ha2]; exact heap_at hs2)
  go_wp2_with fail
  clear e0 e1 e2 e3
  have HW := Lib.hid (HW.out.trans (KA.mono HW.out.size))
  have HAT := Lib.hid (HAT.out.keep KA)
  have HBX := Lib.hid ((KA.block _ (Array.getElem?_eq_some_iff.1 HBX.out).1).trans HBX.out)
  clear hs2 ha2 KA
  (with_reducible refine (CO1.out _ _ HAT.out HG.out).mono ?_)
  rintro e v3 ⟨vo2, vc2, rfl, HZ, q⟩
  have HW := Lib.hid (HW.out.trans (q.out.mono HW.out.size))
  have HAT := Lib.hid (HAT.out.keep q.out)
  have HBX := Lib.hid ((q.out.block _ (Array.getElem?_eq_some_iff.1 HBX.out).1).trans HBX.out)
  clear HG q
  have e0 : v3.cell? ⟨b, 0, none⟩ = some (.int .i64 1) := cell_block HBX.out 0
  have e1 : v3.cell? ⟨b, 1, none⟩ = some (.int .i64 1) := cell_block HBX.out 1
  have e2 : v3.cell? ⟨b, 2, none⟩ = some (.slice (some ⟨g2, 0, none⟩) 1 1) := cell_block HBX.out 2
  have e3 : v3.cell? ⟨b, 3, none⟩ = some (.slice none 0 0) := cell_block HBX.out 3
  obtain ⟨s3, hs3⟩ : ∃ s, v3.heap.size = s := ⟨_, rfl⟩
  obtain ⟨a3, ha3⟩ : ∃ w, v3.alloc (.cells #[.int .i64 a, .int .i64 a, .int .i64 (a + 60000 + m), .int .i64 (a + 60000 + m)] 33) = w := ⟨_, rfl⟩
  have KA : Below v3.heap.size v3 a3 := by rw [← ha3]; exact (Below.refl _ _).alloc (Nat.le_refl _) _
  have HG : Hid (a3.heap[s3]? = some (.cells #[.int .i64 a, .int .i64 a, .int .i64 (a + 60000 + m), .int .i64 (a + 60000 + m)] 33 (0, 0))) := Lib.hid (by rw [← ha3]; exact heap_at hs3)
  go_wp2_with fail
  clear e0 e1 e2 e3
  have HW := Lib.hid (HW.out.trans (KA.mono HW.out.size))
  have HAT := Lib.hid (HAT.out.keep KA)
  have HBX := Lib.hid ((KA.block _ (Array.getElem?_eq_some_iff.1 HBX.out).1).trans HBX.out)
  have HZ := Lib.hid (HZ.out.keep (KA))
  clear hs3 ha3 KA
  (with_reducible refine (CO2.out _ _ HAT.out HG.out).mono ?_)
  rintro e v4 ⟨vo3, vc3, rfl, HZZ, q⟩
  have HW := Lib.hid (HW.out.trans (q.out.mono HW.out.size))
  have HAT := Lib.hid (HAT.out.keep q.out)
  have HBX := Lib.hid ((q.out.block _ (Array.getElem?_eq_some_iff.1 HBX.out).1).trans HBX.out)
  have HZ := Lib.hid (HZ.out.keep (q.out))
  clear HG q
  go_upto_region 5 with fail
  clear HZZ HAT HBX CO1 CO2
  obtain ⟨r3, hr3⟩ : ∃ r, v4.heap.size = r := ⟨_, rfl⟩
  obtain ⟨v5, hv5⟩ : ∃ v, v4.alloc (.cells #[.int .i64 a, .int .i64 (a + 60000 - 1)] 3) = v := ⟨_, rfl⟩
  have KA : Below v4.heap.size v4 v5 := by rw [← hv5]; exact (Below.refl _ _).alloc (Nat.le_refl _) _
  have HC := Lib.hid (ints_any vo2 _ 2 vc2 2 2 [a, a + 60000 - 1] [a, a + 60000 - 1] v5 (HZ.out.keep KA) (iz_two (by rw [← hv5]; exact heap_at hr3)) true ⟨fun _ => rfl, fun _ => rfl⟩)
  have HW := Lib.hid (HW.out.trans (KA.mono HW.out.size))
  clear KA
  go_wp2_with fail
  clear hv5 hr3
  (with_reducible refine HC.out.mono ?_)
  rintro e v6 ⟨rfl, q⟩
  have HW := Lib.hid (HW.out.trans (q.mono HW.out.size))
  clear q HC HZ
  go_wp2_with fail
  (with_reducible refine (HAW.out _).mono ?_)
  rintro e v7 ⟨rfl, q⟩
  have HW := Lib.hid (HW.out.trans (q.mono HW.out.size))
  clear q
  go_wp2
  go_returns
  exact ⟨rfl, HW.out⟩
end Go.Proofs.Ytjhbgedobkpdhaa
