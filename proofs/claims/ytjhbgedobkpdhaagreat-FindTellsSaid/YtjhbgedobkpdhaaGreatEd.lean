/- Ported. -/
import Derived.Test.YtjhbgedobkpdhaaGreatEc
namespace Go.Proofs.YtjhbgedobkpdhaaGreat
set_option linter.unusedVariables false
set_option linter.unusedSimpArgs false
open Go.ChangeShapes Go.WideShapes Go.ChangeAt Go.RowKit
theorem oddClo_any (F : Fv) (w : World) (hF : F.At w) : Calls Tryz.prog 30 #[F.v] w fun e w' => ∃ g, e = .returned (.func (.func 59) #[] #[.pointer (some ⟨g, 0, none⟩)]) ∧ Hid (w'.cell? ⟨g, 3, none⟩ = some (.slice F.oo F.on F.oc)) ∧ Below w.heap.size w w' := by
  obtain ⟨P, N, co, cn, cc, oo, on, oc, cs, os⟩ := F
  have LC : Hid (cs.length = cn) := Lib.hid hF.core.len
  have LO : Hid (os.length = on) := Lib.hid hF.odd.len
  have hmc : cn ≤ 9223372036854775807 := Nat.le_trans hF.core.le hF.core.top
  have hmo : on ≤ 9223372036854775807 := Nat.le_trans hF.odd.le hF.odd.top
  obtain ⟨b, hb⟩ : ∃ b, w.heap.size = b := ⟨_, rfl⟩
  obtain ⟨wb, hwb⟩ : ∃ wb, w.alloc (.cells #[.int .i64 P, .int .i64 N, .slice co cn cc, .slice oo on oc] 25) = wb := ⟨_, rfl⟩
  have HBB : Hid (Fbox ⟨P, N, co, cn, cc, oo, on, oc, cs, os⟩ w wb b) := Lib.hid (by rw [← hwb, ← hb]; exact fbox_new hF)
  have HF := Lib.hid hF
  clear hF
  show Calls Tryz.prog 30 #[.agg #[.int .i64 P, .int .i64 N, .slice co cn cc, .slice oo on oc]] w _
  go_enter Tryz.func30, Tryz.ntmps30
  go_upto_region 1 with fail
  clear hwb hb
  have HC := Lib.hid HBB.out.c3
  go_wp2
  go_returns
  exact ⟨b, rfl, HC, HBB.out.bw⟩
theorem tks_at {os : List Gr} {j : Nat} (h : j < (tks os).length) : ∃ q : j < os.length, (tks os)[j] = os[j].2 := ⟨by unfold tks at h; rwa [List.length_map] at h, by unfold tks; rw [List.getElem_map]⟩
theorem tks_ex {os : List Gr} {j : Nat} (q : j < os.length) : ∃ h : j < (tks os).length, (tks os)[j] = os[j].2 := ⟨by unfold tks; rwa [List.length_map], by unfold tks; rw [List.getElem_map]⟩
theorem least_low {os : List Gr} {ed : List Sp → Int} {t : Int} {n : Nat} (h : LeastIs (tks os) ed t n) : n ≤ os.length ∧ (∀ q : n < os.length, os[n].2 ≠ [] ∧ t ≤ ed os[n].2) ∧ ∀ j (q : j < os.length), j < n → os[j].2 ≠ [] → ed os[j].2 < t := by
  refine ⟨by have := h.le; unfold tks at this; rwa [List.length_map] at this, fun q => ?_, fun j q a b => ?_⟩
  · obtain ⟨h1, e⟩ := tks_ex q
    have := h.here h1
    rwa [e] at this
  · obtain ⟨h1, e⟩ := tks_ex q
    have := h.low j h1 a (by rw [e]; exact b)
    rwa [e] at this
theorem from_clip {F : Fv} {t t2 i : Int} {ok : Bool} (e : max t (-1099511627776) = t2) (h : FromIs F t2 i ok) : FromIs F t i ok := by
  refine ⟨fun z => ?_, fun z => ?_⟩
  · obtain ⟨a, b, c⟩ := h.1 z
    exact ⟨a, by omega, fun k k1 k2 => c k k1 (by have := (hull_rng k1.2.1 k1.2.2).2.1; omega)⟩
  · obtain ⟨a, b⟩ := h.2 z
    exact ⟨a, fun k k1 => by have := b k k1; have := (hull_rng k1.2.1 k1.2.2).2.1; omega⟩
theorem till_clip {F : Fv} {t t2 i : Int} {ok : Bool} (e : min t 1099511627776 = t2) (h : TillIs F t2 i ok) : TillIs F t i ok := by
  refine ⟨fun z => ?_, fun z => ?_⟩
  · obtain ⟨a, b, c⟩ := h.1 z
    exact ⟨a, by omega, fun k k1 k2 => c k k1 (by have := (hull_rng k1.2.1 k1.2.2).1.2; omega)⟩
  · obtain ⟨a, b⟩ := h.2 z
    exact ⟨a, fun k k1 => by have := b k k1; have := (hull_rng k1.2.1 k1.2.2).1.2; omega⟩
theorem early_le {os : List Gr} (s : os.Pairwise (fun a b => a.1 < b.1)) {n : Nat} {x : Int} (h : EarlyIs os n x true) : ∀ m (q : m < os.length), m < n → os[m].2 ≠ [] → os[m].1 ≤ x := fun m q a b => by
  obtain ⟨p, hp, p1, p2, p3, p4⟩ := h.1 rfl
  rcases Nat.lt_or_ge p m with z | z
  · exact absurd (p4 m q z a) b
  · have := inc_le s m p q hp z; omega
theorem early_in {F : Fv} (ok : F.Ok) {n : Nat} {x : Int} {s : Bool} (h : EarlyIs F.os n x s) (z : s = true) : -1099511627776 ≤ x ∧ x ≤ 1099511627776 := by
  obtain ⟨p, hp, p1, p2, p3, p4⟩ := h.1 z
  have := (ok.odd.good _ (List.getElem_mem hp)).2
  rw [← p3]; exact this
set_option maxRecDepth 8000 in
set_option maxHeartbeats 4000000 in
theorem from_any (F : Fv) (t : Int) (w : World) (hF : F.At w) (rt : F.Rt) (ok : F.Ok) (hc : F.cn ≤ 10000) (t1 : -9223372036854775808 ≤ t) (t2 : t ≤ 9223372036854775807) : Calls Tryz.prog 10 #[F.v, .int .i64 t] w fun e w' => IbOut (FromIs F t) e ∧ Hid (Below w.heap.size w w') := by
  have HRT := Lib.hid rt
  have HOK := Lib.hid ok
  clear rt ok
  obtain ⟨P, N, co, cn, cc, oo, on, oc, cs, os⟩ := F
  have LC : Hid (cs.length = cn) := Lib.hid hF.core.len
  have LO : Hid (os.length = on) := Lib.hid hF.odd.len
  have hmc : cn ≤ 9223372036854775807 := Nat.le_trans hF.core.le hF.core.top
  have hmo : on ≤ 9223372036854775807 := Nat.le_trans hF.odd.le hF.odd.top
  have hc10 : cn ≤ 10000 := hc
  have HRT : Hid (Fv.Rt ⟨P, N, co, cn, cc, oo, on, oc, cs, os⟩) := HRT
  have HOK : Hid (Fv.Ok ⟨P, N, co, cn, cc, oo, on, oc, cs, os⟩) := HOK
  have HLN : Hid ((Fv.cs ⟨P, N, co, cn, cc, oo, on, oc, cs, os⟩).length = Fv.cn ⟨P, N, co, cn, cc, oo, on, oc, cs, os⟩) := Lib.hid LC.out
  obtain ⟨b, hb⟩ : ∃ b, w.heap.size = b := ⟨_, rfl⟩
  obtain ⟨wb, hwb⟩ : ∃ wb, w.alloc (.cells #[.int .i64 P, .int .i64 N, .slice co cn cc, .slice oo on oc] 25) = wb := ⟨_, rfl⟩
  have HBB : Hid (Fbox ⟨P, N, co, cn, cc, oo, on, oc, cs, os⟩ w wb b) := Lib.hid (by rw [← hwb, ← hb]; exact fbox_new hF)
  have HF := Lib.hid hF
  clear hF
  show Calls Tryz.prog 10 #[.agg #[.int .i64 P, .int .i64 N, .slice co cn cc, .slice oo on oc], .int .i64 t] w _
  go_enter Tryz.func10, Tryz.ntmps10
  go_upto_region 1 with fail
  clear hwb hb
  have e0 : wb.cell? ⟨b, 0, none⟩ = some (.int .i64 P) := HBB.out.c0
  have e1 : wb.cell? ⟨b, 1, none⟩ = some (.int .i64 N) := HBB.out.c1
  have e2 : wb.cell? ⟨b, 2, none⟩ = some (.slice co cn cc) := HBB.out.c2
  have e3 : wb.cell? ⟨b, 3, none⟩ = some (.slice oo on oc) := HBB.out.c3
  by_cases big : 1099511627776 < t
  · have t12 : decide (1099511627776 < t) = true := by simp; exact big
    have HZ : Hid (FromIs ⟨P, N, co, cn, cc, oo, on, oc, cs, os⟩ t 0 false) := Lib.hid ⟨(fun z => by cases z), fun _ => ⟨rfl, fun k k1 => by have := (hull_rng k1.2.1 k1.2.2).2.2; omega⟩⟩
    go_wp2
    go_returns
    exact ⟨⟨0, false, rfl, HZ.out⟩, Lib.hid HBB.out.bw⟩
  have t12 : decide (1099511627776 < t) = false := by simp; omega
  obtain ⟨u, hu⟩ : ∃ u, max t (-1099511627776) = u := ⟨_, rfl⟩
  have HCL : Hid (∀ i ok, FromIs ⟨P, N, co, cn, cc, oo, on, oc, cs, os⟩ u i ok → FromIs ⟨P, N, co, cn, cc, oo, on, oc, cs, os⟩ t i ok) := Lib.hid (fun i ok h => from_clip hu h)
  have u1 : -1099511627776 ≤ u := by omega
  have u2 : u ≤ 1099511627776 := by omega
  have HCO : Hid (∀ W, Fv.At ⟨P, N, co, cn, cc, oo, on, oc, cs, os⟩ W → Calls Tryz.prog 30 #[.agg #[.int .i64 P, .int .i64 N, .slice co cn cc, .slice oo on oc]] W fun e w' => ∃ g, e = .returned (.func (.func 59) #[] #[.pointer (some ⟨g, 0, none⟩)]) ∧ Hid (w'.cell? ⟨g, 3, none⟩ = some (.slice oo on oc)) ∧ Below W.heap.size W w') := Lib.hid (fun W h => oddClo_any ⟨P, N, co, cn, cc, oo, on, oc, cs, os⟩ W h)
  have HLS : Hid (∀ W g, W.cell? ⟨g, 3, none⟩ = some (.slice oo on oc) → Fv.At ⟨P, N, co, cn, cc, oo, on, oc, cs, os⟩ W → Calls Tryz.prog 29 #[.int .i64 (on : Int), .func (.func 59) #[] #[.pointer (some ⟨g, 0, none⟩)], .func (.func 31) #[] #[], .int .i64 (u)] W fun e w' => ∃ r : Nat, e = .returned (.int .i64 (r : Int)) ∧ Hid (LeastIs (tks os) hullB (u) r) ∧ Below W.heap.size W w') := Lib.hid (fun W g h1 h2 => (least_60_32 on (tks os) (by unfold tks; rw [List.length_map]; exact LO.out) HOK.out.on g hullB (u) W (fun i hi => by
    obtain ⟨q, e⟩ := tks_at hi
    rw [e]
    exact oddSet_any oo on oc os g i W h1 h2.odd q) (fun ao n c l h ne => last_any ao n c l W h ne) (fun i j hi hj q ni nj => odd_edge HRT.out HOK.out HLN.out edgeB hi hj q ni nj)).mono (by rintro e w' ⟨r, rfl, hr, rfl⟩; exact ⟨r, rfl, hr, Below.refl _ _⟩))
  have HOB : Hid (∀ (n : Nat) W, Fv.At ⟨P, N, co, cn, cc, oo, on, oc, cs, os⟩ W → n ≤ on → Calls Tryz.prog 33 #[.agg #[.int .i64 P, .int .i64 N, .slice co cn cc, .slice oo on oc], .int .i64 (n : Int)] W fun e w' => IbOut (EarlyIs os n) e ∧ Hid (Below W.heap.size W w')) := Lib.hid (fun n W h q => oddBefore_any ⟨P, N, co, cn, cc, oo, on, oc, cs, os⟩ n W h q (Nat.le_trans q HOK.out.on))
  have HEX : Hid (∀ i k r W, Fv.At ⟨P, N, co, cn, cc, oo, on, oc, cs, os⟩ W → (r = true ↔ k = true ∧ Ex ⟨P, N, co, cn, cc, oo, on, oc, cs, os⟩ i) → Calls Tryz.prog 35 #[.agg #[.int .i64 P, .int .i64 N, .slice co cn cc, .slice oo on oc], .int .i64 i, .bool k] W fun e w' => IbOut (fun j b => b = r ∧ (r = true → j = i) ∧ (r = false → j = 0)) e ∧ Hid (Below W.heap.size W w')) := Lib.hid (fun i k r W h q => existing_any ⟨P, N, co, cn, cc, oo, on, oc, cs, os⟩ i k W h HOK.out r q)
  have HFC : Hid (∀ W, Fv.At ⟨P, N, co, cn, cc, oo, on, oc, cs, os⟩ W → Calls Tryz.prog 32 #[.agg #[.int .i64 P, .int .i64 N, .slice co cn cc, .slice oo on oc], .int .i64 u] W fun e w' => IbOut (FromCoreIs ⟨P, N, co, cn, cc, oo, on, oc, cs, os⟩ u) e ∧ Hid (Below W.heap.size W w')) := Lib.hid (fun W h => fromCore_any ⟨P, N, co, cn, cc, oo, on, oc, cs, os⟩ u W h HRT.out HOK.out hc10 u1 u2)
  have HBE : Hid (∀ i W, Fv.At ⟨P, N, co, cn, cc, oo, on, oc, cs, os⟩ W → -9223372036854775808 ≤ i → i ≤ 9223372036854775807 → Calls Tryz.prog 34 #[.agg #[.int .i64 P, .int .i64 N, .slice co cn cc, .slice oo on oc], .int .i64 i] W fun e w' => IbOut (UpIs ⟨P, N, co, cn, cc, oo, on, oc, cs, os⟩ i) e ∧ Hid (Below W.heap.size W w')) := Lib.hid (fun i W h a b => behind2_any ⟨P, N, co, cn, cc, oo, on, oc, cs, os⟩ i W h HOK.out a b)
  have HS : Hid (∀ W, Fbox ⟨P, N, co, cn, cc, oo, on, oc, cs, os⟩ w W b → W.cell? ⟨b, 0, none⟩ = some (.int .i64 P) ∧ W.cell? ⟨b, 1, none⟩ = some (.int .i64 N) ∧ W.cell? ⟨b, 2, none⟩ = some (.slice co cn cc) ∧ W.cell? ⟨b, 3, none⟩ = some (.slice oo on oc) ∧ Hid (Fbox ⟨P, N, co, cn, cc, oo, on, oc, cs, os⟩ w W b)) := Lib.hid (fun W h => ⟨h.c0, h.c1, h.c2, h.c3, Lib.hid h⟩)
  go_upto_region 4 with fail
  clear hu
  refine wp_region_held_drew (S := (fun W => W.cell? ⟨b, 0, none⟩ = some (.int .i64 P) ∧ W.cell? ⟨b, 1, none⟩ = some (.int .i64 N) ∧ W.cell? ⟨b, 2, none⟩ = some (.slice co cn cc) ∧ W.cell? ⟨b, 3, none⟩ = some (.slice oo on oc) ∧ Hid (Fbox ⟨P, N, co, cn, cc, oo, on, oc, cs, os⟩ w W b))) (by kernel_rfl) ?_ (fun hHeld => ?_)
  · exact HS.out _ (HBB.out.keep (Below.refl _ _).drew)
  refine wpAnyH_take (i := 0) (oi := _) (v := ?_) rfl (by kernel_rfl) (by kernel_rfl) (by kernel_rfl) (fun _ _ _ h => h) (Or.inl ⟨by kernel_rfl, ?_⟩) (by assumption) ?_
  rotate_left 1
  focus (intro wq hSw; (try dsimp only at hSw); obtain ⟨s0, s1, s2, s3, s4⟩ := hSw; go_simp; (try with_reducible rfl); done)
  try simp only [List.getElem_toArray, List.getElem_cons_zero, List.getElem_cons_succ, Act.put, List.setIfInBounds_toArray, List.set_cons_zero, List.set_cons_succ]
  refine wpAnyH_take (i := 1) (oi := _) (v := ?_) rfl (by kernel_rfl) (by kernel_rfl) (by kernel_rfl) (fun _ _ _ h => h) (Or.inl ⟨by kernel_rfl, ?_⟩) (by assumption) ?_
  rotate_left 1
  focus (intro wq hSw; (try dsimp only at hSw); obtain ⟨s0, s1, s2, s3, s4⟩ := hSw; go_simp; (try with_reducible rfl); done)
  try simp only [List.getElem_toArray, List.getElem_cons_zero, List.getElem_cons_succ, Act.put, List.setIfInBounds_toArray, List.set_cons_zero, List.set_cons_succ]
  refine wpAnyH_take (i := 2) (oi := _) (v := ?_) rfl (by kernel_rfl) (by kernel_rfl) (by kernel_rfl) (fun _ _ _ h => h) (Or.inl ⟨by kernel_rfl, ?_⟩) (by assumption) ?_
  rotate_left 1
  focus (intro wq hSw; (try dsimp only at hSw); obtain ⟨s0, s1, s2, s3, s4⟩ := hSw; go_simp; (try with_reducible rfl); done)
  try simp only [List.getElem_toArray, List.getElem_cons_zero, List.getElem_cons_succ, Act.put, List.setIfInBounds_toArray, List.set_cons_zero, List.set_cons_succ]
  refine wpAnyH_take (i := 3) (oi := _) (v := ?_) rfl (by kernel_rfl) (by kernel_rfl) (by kernel_rfl) (fun _ _ _ h => h) (Or.inl ⟨by kernel_rfl, ?_⟩) (by assumption) ?_
  rotate_left 1
  focus (intro wq hSw; (try dsimp only at hSw); obtain ⟨s0, s1, s2, s3, s4⟩ := hSw; go_simp; (try with_reducible rfl); done)
  try simp only [List.getElem_toArray, List.getElem_cons_zero, List.getElem_cons_succ, Act.put, List.setIfInBounds_toArray, List.set_cons_zero, List.set_cons_succ]
  refine wpAnyH_take (i := 5) (oi := _) (v := ?_) rfl (by kernel_rfl) (by kernel_rfl) (by kernel_rfl) (fun _ _ _ h => h) (Or.inl ⟨by kernel_rfl, ?_⟩) (by assumption) ?_
  rotate_left 1
  focus (intro wq hSw; (try dsimp only at hSw); obtain ⟨s0, s1, s2, s3, s4⟩ := hSw; go_simp; (try with_reducible rfl); done)
  try simp only [List.getElem_toArray, List.getElem_cons_zero, List.getElem_cons_succ, Act.put, List.setIfInBounds_toArray, List.set_cons_zero, List.set_cons_succ]
  refine wpAnyH_ready (rs := [4]) (by kernel_rfl) (by simp) ?_
  refine AllReadyH.cons (o := _) rfl (fun K hK => ?_) AllReadyH.nil
  rw [if_pos (by kernel_rfl)]
  go_simp
  (go_at_call 30; (with_reducible refine (HCO.out _ hHeld.2.2.2.2.out.at_).mono ?_); rintro e z1 ⟨g, rfl, HG3, q⟩)
  first | refine hK.out _ _ ?_ (fun hHeld => ?_) | (go_wp2_with fail; refine hK.out _ _ ?_ (fun hHeld => ?_))
  · exact HS.out _ (hHeld.2.2.2.2.out.keep q)
  clear hK K
  try simp only [List.getElem_toArray, List.getElem_cons_zero, List.getElem_cons_succ, Act.put, List.setIfInBounds_toArray, List.set_cons_zero, List.set_cons_succ]
  refine wpAnyH_ready (rs := [6]) (by kernel_rfl) (by simp) ?_
  refine AllReadyH.cons (o := _) rfl (fun K hK => ?_) AllReadyH.nil
  rw [if_pos (by kernel_rfl)]
  go_simp
  (go_at_call 29; (with_reducible refine (HLS.out _ g HG3.out hHeld.2.2.2.2.out.at_).mono ?_); rintro e z2 ⟨n, rfl, HLE, q⟩)
  first | refine hK.out _ _ ?_ (fun hHeld => ?_) | (go_wp2_with fail; refine hK.out _ _ ?_ (fun hHeld => ?_))
  · exact HS.out _ (hHeld.2.2.2.2.out.keep q)
  clear hK K
  try simp only [List.getElem_toArray, List.getElem_cons_zero, List.getElem_cons_succ, Act.put, List.setIfInBounds_toArray, List.set_cons_zero, List.set_cons_succ]
  refine wpAnyH_take (i := 7) (oi := _) (v := ?_) rfl (by kernel_rfl) (by kernel_rfl) (by kernel_rfl) (fun _ _ _ h => h) (Or.inl ⟨by kernel_rfl, ?_⟩) (by assumption) ?_
  rotate_left 1
  focus (intro wq hSw; (try dsimp only at hSw); obtain ⟨s0, s1, s2, s3, s4⟩ := hSw; go_simp; (try with_reducible rfl); done)
  try simp only [List.getElem_toArray, List.getElem_cons_zero, List.getElem_cons_succ, Act.put, List.setIfInBounds_toArray, List.set_cons_zero, List.set_cons_succ]
  refine wpAnyH_done (by kernel_rfl) ?_ _
  have HBB := Lib.hid hHeld.2.2.2.2.out
  clear hHeld HS HLS HCO
  have e0 : z2.cell? ⟨b, 0, none⟩ = some (.int .i64 P) := HBB.out.c0
  have e1 : z2.cell? ⟨b, 1, none⟩ = some (.int .i64 N) := HBB.out.c1
  have e2 : z2.cell? ⟨b, 2, none⟩ = some (.slice co cn cc) := HBB.out.c2
  have e3 : z2.cell? ⟨b, 3, none⟩ = some (.slice oo on oc) := HBB.out.c3
  go_wp2_with fail
  (with_reducible refine (HFC.out _ HBB.out.at_).mono ?_)
  rintro e w3 ⟨⟨c, okc, rfl, hfc⟩, q⟩
  have HBB := Lib.hid (HBB.out.keep q.out)
  clear e0 e1 e2 e3 q
  have e0 : w3.cell? ⟨b, 0, none⟩ = some (.int .i64 P) := HBB.out.c0
  have e1 : w3.cell? ⟨b, 1, none⟩ = some (.int .i64 N) := HBB.out.c1
  have e2 : w3.cell? ⟨b, 2, none⟩ = some (.slice co cn cc) := HBB.out.c2
  have e3 : w3.cell? ⟨b, 3, none⟩ = some (.slice oo on oc) := HBB.out.c3
  obtain ⟨nl, nh, nlow⟩ := least_low HLE.out
  have HNL := Lib.hid nl
  have HNH := Lib.hid nh
  have HNW := Lib.hid nlow
  have hno : n ≤ on := by rw [← LO.out]; exact nl
  have hfc1 := Lib.hid hfc
  clear nl nh nlow hfc
  by_cases hn : n < on
  · have t32 : decide ((n : Int) < (on : Int)) = true := by simp; exact hn
    have hn2 : n < os.length := by rw [LO.out]; exact hn
    have n0 : (0 : Int) ≤ (n : Int) := by omega
    have n1 : (n : Int) < (on : Int) := by omega
    obtain ⟨g2, p2, rfl, hcell⟩ := (show OdAt w3 oo on oc os from HBB.out.at_.odd).here (by omega)
    obtain ⟨x0, -, x1, x2⟩ := hcell n hn2
    obtain ⟨X, hX⟩ : ∃ X, (os[n]'hn2).1 = X := ⟨_, rfl⟩
    have HX := Lib.hid hX
    rw [hX] at x0 x1 x2
    have HCR : Hid (okc = true → -1152921504606846976 ≤ c ∧ c ≤ 1152921504606846976) := Lib.hid (fun z => (hfc1.out.1 z).2.2.2.2)
    clear hcell hX
    by_cases take : okc = false ∨ X ≤ c
    · have HZ : Hid (FromIs ⟨P, N, co, cn, cc, some ⟨g2, p2, none⟩, on, oc, cs, os⟩ t X true) := Lib.hid (HCL.out _ _ (by
        have := from_odd HRT.out HOK.out HLN.out (t := u) (c := c) (n := n) (okc := okc) hn2 (HNH.out hn2).1 (HNH.out hn2).2 HNW.out hfc1.out (fun z => by
          rcases take with y | y
          · rw [z] at y; cases y
          · show (os[n]'hn2).1 ≤ c
            rw [HX.out]; exact y)
        rw [← HX.out]; exact this))
      cases okc
      · clear take
        go_wp2
        go_returns
        exact ⟨⟨X, true, rfl, HZ.out⟩, Lib.hid HBB.out.bw⟩
      · have le : X ≤ c := by
          rcases take with y | y
          · cases y
          · exact y
        have t44 : decide (X ≤ c) = true := by simp; exact le
        clear take
        go_wp2
        go_returns
        exact ⟨⟨X, true, rfl, HZ.out⟩, Lib.hid HBB.out.bw⟩
    · have hok : okc = true := by cases okc; exact absurd (.inl rfl) take; rfl
      subst hok
      have gt : c < X := by
        rcases Int.lt_or_le c X with y | y
        · exact y
        · exact absurd (.inr y) take
      have t44 : decide (X ≤ c) = false := by simp; omega
      clear take
      obtain ⟨c1, c2⟩ := HCR.out rfl
      have HA1 : Hid (∀ q : n < os.length, os[n].2 ≠ [] ∧ u ≤ hullB os[n].2 ∧ c < os[n].1) := Lib.hid (fun q => ⟨(HNH.out q).1, (HNH.out q).2, by have := HX.out; omega⟩)
      clear HCR
      clear HX
      go_wp2_with fail
      (with_reducible refine (HOB.out n _ HBB.out.at_ hno).mono ?_)
      rintro e w4 ⟨⟨ea, sm, rfl, hea⟩, q⟩
      have HBB := Lib.hid (HBB.out.keep q.out)
      clear e0 e1 e2 e3 q
      have e0 : w4.cell? ⟨b, 0, none⟩ = some (.int .i64 P) := HBB.out.c0
      have e1 : w4.cell? ⟨b, 1, none⟩ = some (.int .i64 N) := HBB.out.c1
      have e2 : w4.cell? ⟨b, 2, none⟩ = some (.slice co cn cc) := HBB.out.c2
      have e3 : w4.cell? ⟨b, 3, none⟩ = some (.slice (some ⟨g2, p2, none⟩) on oc) := HBB.out.c3
      have HEA := Lib.hid hea
      clear hea HOB
      cases sm
      · obtain ⟨i, hi⟩ : ∃ i, c - 1 = i := ⟨_, rfl⟩
        have HI : Hid (c - 1 = i) := Lib.hid hi
        have i1 : -9223372036854775808 ≤ i := by omega
        have i2 : i ≤ 9223372036854775807 := by omega
        have HE2 : Hid (∀ m (q : m < os.length), m < n → os[m].2 ≠ [] → os[m].1 ≤ i) := Lib.hid (fun m q a b => absurd (HEA.out.2 rfl m q a) b)
        have HE3 : Hid (i = c - 1 ∨ ∃ m, ∃ q : m < os.length, m < n ∧ os[m].2 ≠ [] ∧ os[m].1 = i) := Lib.hid (.inl hi.symm)
        have HE1 : Hid (c - 1 ≤ i) := Lib.hid (by omega)
        go_wp2_with fail
        (with_reducible refine (HBE.out i _ HBB.out.at_ i1 i2).mono ?_)
        rintro e w5 ⟨⟨j, okb, rfl, hub⟩, q⟩
        have HBB := Lib.hid (HBB.out.keep q.out)
        clear e0 e1 e2 e3 q
        have e0 : w5.cell? ⟨b, 0, none⟩ = some (.int .i64 P) := HBB.out.c0
        have e1 : w5.cell? ⟨b, 1, none⟩ = some (.int .i64 N) := HBB.out.c1
        have e2 : w5.cell? ⟨b, 2, none⟩ = some (.slice co cn cc) := HBB.out.c2
        have e3 : w5.cell? ⟨b, 3, none⟩ = some (.slice (some ⟨g2, p2, none⟩) on oc) := HBB.out.c3
        have HUB := Lib.hid hub
        clear hub HBE hi
        obtain ⟨r, hr⟩ : ∃ r : Bool, r = true ↔ okb = true ∧ Ex ⟨P, N, co, cn, cc, some ⟨g2, p2, none⟩, on, oc, cs, os⟩ j := by classical exact ⟨decide _, decide_eq_true_iff⟩
        have HZ := Lib.hid (HCL.out _ _ (from_core HRT.out HOK.out HLN.out u1 HNL.out HA1.out HNW.out hfc1.out HE1.out HE2.out HE3.out HUB.out hr))
        have HXX := Lib.hid (fun W h => HEX.out j okb r W h hr)
        clear hr
        go_wp2_with fail
        (with_reducible refine (HXX.out _ HBB.out.at_).mono ?_)
        rintro e w8 ⟨⟨j2, r2, rfl, rfl, h1, h2⟩, q⟩
        have HBB := Lib.hid (HBB.out.keep q.out)
        clear e0 e1 e2 e3 q
        have HJ : Hid ((if r2 then j else 0) = j2) := Lib.hid (by cases r2; exact (h2 rfl).symm; exact (h1 rfl).symm)
        rw [HJ.out] at HZ
        clear h1 h2 HXX HEX
        go_wp2
        go_returns
        exact ⟨⟨j2, r2, rfl, HZ.out⟩, Lib.hid HBB.out.bw⟩
      · obtain ⟨ea1, ea2⟩ := early_in HOK.out HEA.out rfl
        obtain ⟨i, hi⟩ : ∃ i, max (c - 1) ea = i := ⟨_, rfl⟩
        have HI : Hid (max (c - 1) ea = i) := Lib.hid hi
        have i1 : -9223372036854775808 ≤ i := by omega
        have i2 : i ≤ 9223372036854775807 := by omega
        have HE2 : Hid (∀ m (q : m < os.length), m < n → os[m].2 ≠ [] → os[m].1 ≤ i) := Lib.hid (fun m q a b => by have := early_le HOK.out.odd.inc HEA.out m q a b; show (os[m]'q).1 ≤ i; have : (os[m]'q).1 ≤ ea := this; omega)
        have HE3 : Hid (i = c - 1 ∨ ∃ m, ∃ q : m < os.length, m < n ∧ os[m].2 ≠ [] ∧ os[m].1 = i) := Lib.hid (by
          obtain ⟨p, hp, p1, p2, p3, p4⟩ := HEA.out.1 rfl
          by_cases z : c - 1 ≤ ea
          · exact .inr ⟨p, hp, p1, p2, by omega⟩
          · exact .inl (by omega))
        have HE1 : Hid (c - 1 ≤ i) := Lib.hid (by omega)
        go_wp2_with fail
        (with_reducible refine (HBE.out i _ HBB.out.at_ i1 i2).mono ?_)
        rintro e w5 ⟨⟨j, okb, rfl, hub⟩, q⟩
        have HBB := Lib.hid (HBB.out.keep q.out)
        clear e0 e1 e2 e3 q
        have e0 : w5.cell? ⟨b, 0, none⟩ = some (.int .i64 P) := HBB.out.c0
        have e1 : w5.cell? ⟨b, 1, none⟩ = some (.int .i64 N) := HBB.out.c1
        have e2 : w5.cell? ⟨b, 2, none⟩ = some (.slice co cn cc) := HBB.out.c2
        have e3 : w5.cell? ⟨b, 3, none⟩ = some (.slice (some ⟨g2, p2, none⟩) on oc) := HBB.out.c3
        have HUB := Lib.hid hub
        clear hub HBE hi
        obtain ⟨r, hr⟩ : ∃ r : Bool, r = true ↔ okb = true ∧ Ex ⟨P, N, co, cn, cc, some ⟨g2, p2, none⟩, on, oc, cs, os⟩ j := by classical exact ⟨decide _, decide_eq_true_iff⟩
        have HZ := Lib.hid (HCL.out _ _ (from_core HRT.out HOK.out HLN.out u1 HNL.out HA1.out HNW.out hfc1.out HE1.out HE2.out HE3.out HUB.out hr))
        have HXX := Lib.hid (fun W h => HEX.out j okb r W h hr)
        clear hr
        go_wp2_with fail
        (with_reducible refine (HXX.out _ HBB.out.at_).mono ?_)
        rintro e w8 ⟨⟨j2, r2, rfl, rfl, h1, h2⟩, q⟩
        have HBB := Lib.hid (HBB.out.keep q.out)
        clear e0 e1 e2 e3 q
        have HJ : Hid ((if r2 then j else 0) = j2) := Lib.hid (by cases r2; exact (h2 rfl).symm; exact (h1 rfl).symm)
        rw [HJ.out] at HZ
        clear h1 h2 HXX HEX
        go_wp2
        go_returns
        exact ⟨⟨j2, r2, rfl, HZ.out⟩, Lib.hid HBB.out.bw⟩
  · have t32 : decide ((n : Int) < (on : Int)) = false := by simp; omega
    have hn3 : ¬ n < on := hn
    cases okc
    · have HZ : Hid (FromIs ⟨P, N, co, cn, cc, oo, on, oc, cs, os⟩ t 0 false) := Lib.hid (HCL.out _ _ (from_none HRT.out HOK.out HLN.out (fun j q ne => HNW.out j q (by have q : j < os.length := q; have := LO.out; omega) ne) hfc1.out))
      go_wp2
      go_returns
      exact ⟨⟨0, false, rfl, HZ.out⟩, Lib.hid HBB.out.bw⟩
    · obtain ⟨_, _, _, _, c1, c2⟩ := hfc1.out.1 rfl
      have HA1 : Hid (∀ q : n < os.length, os[n].2 ≠ [] ∧ u ≤ hullB os[n].2 ∧ c < os[n].1) := Lib.hid (fun q => absurd (by rw [← LO.out]; exact q) hn3)
      go_wp2_with fail
      (with_reducible refine (HOB.out n _ HBB.out.at_ hno).mono ?_)
      rintro e w4 ⟨⟨ea, sm, rfl, hea⟩, q⟩
      have HBB := Lib.hid (HBB.out.keep q.out)
      clear e0 e1 e2 e3 q
      have e0 : w4.cell? ⟨b, 0, none⟩ = some (.int .i64 P) := HBB.out.c0
      have e1 : w4.cell? ⟨b, 1, none⟩ = some (.int .i64 N) := HBB.out.c1
      have e2 : w4.cell? ⟨b, 2, none⟩ = some (.slice co cn cc) := HBB.out.c2
      have e3 : w4.cell? ⟨b, 3, none⟩ = some (.slice oo on oc) := HBB.out.c3
      have HEA := Lib.hid hea
      clear hea HOB
      cases sm
      · obtain ⟨i, hi⟩ : ∃ i, c - 1 = i := ⟨_, rfl⟩
        have HI : Hid (c - 1 = i) := Lib.hid hi
        have i1 : -9223372036854775808 ≤ i := by omega
        have i2 : i ≤ 9223372036854775807 := by omega
        have HE2 : Hid (∀ m (q : m < os.length), m < n → os[m].2 ≠ [] → os[m].1 ≤ i) := Lib.hid (fun m q a b => absurd (HEA.out.2 rfl m q a) b)
        have HE3 : Hid (i = c - 1 ∨ ∃ m, ∃ q : m < os.length, m < n ∧ os[m].2 ≠ [] ∧ os[m].1 = i) := Lib.hid (.inl hi.symm)
        have HE1 : Hid (c - 1 ≤ i) := Lib.hid (by omega)
        go_wp2_with fail
        (with_reducible refine (HBE.out i _ HBB.out.at_ i1 i2).mono ?_)
        rintro e w5 ⟨⟨j, okb, rfl, hub⟩, q⟩
        have HBB := Lib.hid (HBB.out.keep q.out)
        clear e0 e1 e2 e3 q
        have e0 : w5.cell? ⟨b, 0, none⟩ = some (.int .i64 P) := HBB.out.c0
        have e1 : w5.cell? ⟨b, 1, none⟩ = some (.int .i64 N) := HBB.out.c1
        have e2 : w5.cell? ⟨b, 2, none⟩ = some (.slice co cn cc) := HBB.out.c2
        have e3 : w5.cell? ⟨b, 3, none⟩ = some (.slice oo on oc) := HBB.out.c3
        have HUB := Lib.hid hub
        clear hub HBE hi
        obtain ⟨r, hr⟩ : ∃ r : Bool, r = true ↔ okb = true ∧ Ex ⟨P, N, co, cn, cc, oo, on, oc, cs, os⟩ j := by classical exact ⟨decide _, decide_eq_true_iff⟩
        have HZ := Lib.hid (HCL.out _ _ (from_core HRT.out HOK.out HLN.out u1 HNL.out HA1.out HNW.out hfc1.out HE1.out HE2.out HE3.out HUB.out hr))
        have HXX := Lib.hid (fun W h => HEX.out j okb r W h hr)
        clear hr
        go_wp2_with fail
        (with_reducible refine (HXX.out _ HBB.out.at_).mono ?_)
        rintro e w8 ⟨⟨j2, r2, rfl, rfl, h1, h2⟩, q⟩
        have HBB := Lib.hid (HBB.out.keep q.out)
        clear e0 e1 e2 e3 q
        have HJ : Hid ((if r2 then j else 0) = j2) := Lib.hid (by cases r2; exact (h2 rfl).symm; exact (h1 rfl).symm)
        rw [HJ.out] at HZ
        clear h1 h2 HXX HEX
        go_wp2
        go_returns
        exact ⟨⟨j2, r2, rfl, HZ.out⟩, Lib.hid HBB.out.bw⟩
      · obtain ⟨ea1, ea2⟩ := early_in HOK.out HEA.out rfl
        obtain ⟨i, hi⟩ : ∃ i, max (c - 1) ea = i := ⟨_, rfl⟩
        have HI : Hid (max (c - 1) ea = i) := Lib.hid hi
        have i1 : -9223372036854775808 ≤ i := by omega
        have i2 : i ≤ 9223372036854775807 := by omega
        have HE2 : Hid (∀ m (q : m < os.length), m < n → os[m].2 ≠ [] → os[m].1 ≤ i) := Lib.hid (fun m q a b => by have := early_le HOK.out.odd.inc HEA.out m q a b; show (os[m]'q).1 ≤ i; have : (os[m]'q).1 ≤ ea := this; omega)
        have HE3 : Hid (i = c - 1 ∨ ∃ m, ∃ q : m < os.length, m < n ∧ os[m].2 ≠ [] ∧ os[m].1 = i) := Lib.hid (by
          obtain ⟨p, hp, p1, p2, p3, p4⟩ := HEA.out.1 rfl
          by_cases z : c - 1 ≤ ea
          · exact .inr ⟨p, hp, p1, p2, by omega⟩
          · exact .inl (by omega))
        have HE1 : Hid (c - 1 ≤ i) := Lib.hid (by omega)
        go_wp2_with fail
        (with_reducible refine (HBE.out i _ HBB.out.at_ i1 i2).mono ?_)
        rintro e w5 ⟨⟨j, okb, rfl, hub⟩, q⟩
        have HBB := Lib.hid (HBB.out.keep q.out)
        clear e0 e1 e2 e3 q
        have e0 : w5.cell? ⟨b, 0, none⟩ = some (.int .i64 P) := HBB.out.c0
        have e1 : w5.cell? ⟨b, 1, none⟩ = some (.int .i64 N) := HBB.out.c1
        have e2 : w5.cell? ⟨b, 2, none⟩ = some (.slice co cn cc) := HBB.out.c2
        have e3 : w5.cell? ⟨b, 3, none⟩ = some (.slice oo on oc) := HBB.out.c3
        have HUB := Lib.hid hub
        clear hub HBE hi
        obtain ⟨r, hr⟩ : ∃ r : Bool, r = true ↔ okb = true ∧ Ex ⟨P, N, co, cn, cc, oo, on, oc, cs, os⟩ j := by classical exact ⟨decide _, decide_eq_true_iff⟩
        have HZ := Lib.hid (HCL.out _ _ (from_core HRT.out HOK.out HLN.out u1 HNL.out HA1.out HNW.out hfc1.out HE1.out HE2.out HE3.out HUB.out hr))
        have HXX := Lib.hid (fun W h => HEX.out j okb r W h hr)
        clear hr
        go_wp2_with fail
        (with_reducible refine (HXX.out _ HBB.out.at_).mono ?_)
        rintro e w8 ⟨⟨j2, r2, rfl, rfl, h1, h2⟩, q⟩
        have HBB := Lib.hid (HBB.out.keep q.out)
        clear e0 e1 e2 e3 q
        have HJ : Hid ((if r2 then j else 0) = j2) := Lib.hid (by cases r2; exact (h2 rfl).symm; exact (h1 rfl).symm)
        rw [HJ.out] at HZ
        clear h1 h2 HXX HEX
        go_wp2
        go_returns
        exact ⟨⟨j2, r2, rfl, HZ.out⟩, Lib.hid HBB.out.bw⟩
theorem early_at {os : List Gr} {n : Nat} {x : Int} (h : EarlyIs os n x true) (s : os.Pairwise (fun a b => a.1 < b.1)) {m : Nat} (q : m < os.length) (a : m < n) (b : os[m].2 ≠ []) : os[m].1 ≤ x := early_le s h m q a b
set_option maxRecDepth 8000 in
set_option maxHeartbeats 4000000 in
theorem till_any (F : Fv) (t : Int) (w : World) (hF : F.At w) (rt : F.Rt) (ok : F.Ok) (hc : F.cn ≤ 10000) (t1 : -9223372036854775808 ≤ t) (t2 : t ≤ 9223372036854775807) : Calls Tryz.prog 12 #[F.v, .int .i64 t] w fun e w' => IbOut (TillIs F t) e ∧ Hid (Below w.heap.size w w') := by
  have HRT := Lib.hid rt
  have HOK := Lib.hid ok
  clear rt ok
  obtain ⟨P, N, co, cn, cc, oo, on, oc, cs, os⟩ := F
  have LC : Hid (cs.length = cn) := Lib.hid hF.core.len
  have LO : Hid (os.length = on) := Lib.hid hF.odd.len
  have hmc : cn ≤ 9223372036854775807 := Nat.le_trans hF.core.le hF.core.top
  have hmo : on ≤ 9223372036854775807 := Nat.le_trans hF.odd.le hF.odd.top
  have hc10 : cn ≤ 10000 := hc
  have HRT : Hid (Fv.Rt ⟨P, N, co, cn, cc, oo, on, oc, cs, os⟩) := HRT
  have HOK : Hid (Fv.Ok ⟨P, N, co, cn, cc, oo, on, oc, cs, os⟩) := HOK
  have HLN : Hid ((Fv.cs ⟨P, N, co, cn, cc, oo, on, oc, cs, os⟩).length = Fv.cn ⟨P, N, co, cn, cc, oo, on, oc, cs, os⟩) := Lib.hid LC.out
  obtain ⟨b, hb⟩ : ∃ b, w.heap.size = b := ⟨_, rfl⟩
  obtain ⟨wb, hwb⟩ : ∃ wb, w.alloc (.cells #[.int .i64 P, .int .i64 N, .slice co cn cc, .slice oo on oc] 25) = wb := ⟨_, rfl⟩
  have HBB : Hid (Fbox ⟨P, N, co, cn, cc, oo, on, oc, cs, os⟩ w wb b) := Lib.hid (by rw [← hwb, ← hb]; exact fbox_new hF)
  have HF := Lib.hid hF
  clear hF
  show Calls Tryz.prog 12 #[.agg #[.int .i64 P, .int .i64 N, .slice co cn cc, .slice oo on oc], .int .i64 t] w _
  go_enter Tryz.func12, Tryz.ntmps12
  go_upto_region 1 with fail
  clear hwb hb
  have e0 : wb.cell? ⟨b, 0, none⟩ = some (.int .i64 P) := HBB.out.c0
  have e1 : wb.cell? ⟨b, 1, none⟩ = some (.int .i64 N) := HBB.out.c1
  have e2 : wb.cell? ⟨b, 2, none⟩ = some (.slice co cn cc) := HBB.out.c2
  have e3 : wb.cell? ⟨b, 3, none⟩ = some (.slice oo on oc) := HBB.out.c3
  by_cases big : t < -1099511627776
  · have t12 : decide (t < -1099511627776) = true := by simp; exact big
    have HZ : Hid (TillIs ⟨P, N, co, cn, cc, oo, on, oc, cs, os⟩ t 0 false) := Lib.hid ⟨(fun z => by cases z), fun _ => ⟨rfl, fun k k1 => by have := (hull_rng k1.2.1 k1.2.2).1.1; omega⟩⟩
    go_wp2
    go_returns
    exact ⟨⟨0, false, rfl, HZ.out⟩, Lib.hid HBB.out.bw⟩
  have t12 : decide (t < -1099511627776) = false := by simp; omega
  obtain ⟨u, hu⟩ : ∃ u, min t 1099511627776 = u := ⟨_, rfl⟩
  have HCL : Hid (∀ i ok, TillIs ⟨P, N, co, cn, cc, oo, on, oc, cs, os⟩ u i ok → TillIs ⟨P, N, co, cn, cc, oo, on, oc, cs, os⟩ t i ok) := Lib.hid (fun i ok h => till_clip hu h)
  have u1 : -1099511627776 ≤ u := by omega
  have u2 : u ≤ 1099511627776 := by omega
  have HCO : Hid (∀ W, Fv.At ⟨P, N, co, cn, cc, oo, on, oc, cs, os⟩ W → Calls Tryz.prog 30 #[.agg #[.int .i64 P, .int .i64 N, .slice co cn cc, .slice oo on oc]] W fun e w' => ∃ g, e = .returned (.func (.func 59) #[] #[.pointer (some ⟨g, 0, none⟩)]) ∧ Hid (w'.cell? ⟨g, 3, none⟩ = some (.slice oo on oc)) ∧ Below W.heap.size W w') := Lib.hid (fun W h => oddClo_any ⟨P, N, co, cn, cc, oo, on, oc, cs, os⟩ W h)
  have HLS : Hid (∀ W g, W.cell? ⟨g, 3, none⟩ = some (.slice oo on oc) → Fv.At ⟨P, N, co, cn, cc, oo, on, oc, cs, os⟩ W → Calls Tryz.prog 29 #[.int .i64 (on : Int), .func (.func 59) #[] #[.pointer (some ⟨g, 0, none⟩)], .func (.func 36) #[] #[], .int .i64 (u + 1)] W fun e w' => ∃ r : Nat, e = .returned (.int .i64 (r : Int)) ∧ Hid (LeastIs (tks os) hullA (u + 1) r) ∧ Below W.heap.size W w') := Lib.hid (fun W g h1 h2 => (least_60_36 on (tks os) (by unfold tks; rw [List.length_map]; exact LO.out) HOK.out.on g hullA (u + 1) W (fun i hi => by
    obtain ⟨q, e⟩ := tks_at hi
    rw [e]
    exact oddSet_any oo on oc os g i W h1 h2.odd q) (fun ao n c l h ne => first_any ao n c l W h ne) (fun i j hi hj q ni nj => odd_edge HRT.out HOK.out HLN.out edgeA hi hj q ni nj)).mono (by rintro e w' ⟨r, rfl, hr, rfl⟩; exact ⟨r, rfl, hr, Below.refl _ _⟩))
  have HOB : Hid (∀ (n : Nat) W, Fv.At ⟨P, N, co, cn, cc, oo, on, oc, cs, os⟩ W → n ≤ on → Calls Tryz.prog 33 #[.agg #[.int .i64 P, .int .i64 N, .slice co cn cc, .slice oo on oc], .int .i64 (n : Int)] W fun e w' => IbOut (EarlyIs os n) e ∧ Hid (Below W.heap.size W w')) := Lib.hid (fun n W h q => oddBefore_any ⟨P, N, co, cn, cc, oo, on, oc, cs, os⟩ n W h q (Nat.le_trans q HOK.out.on))
  have HEX : Hid (∀ i k r W, Fv.At ⟨P, N, co, cn, cc, oo, on, oc, cs, os⟩ W → (r = true ↔ k = true ∧ Ex ⟨P, N, co, cn, cc, oo, on, oc, cs, os⟩ i) → Calls Tryz.prog 35 #[.agg #[.int .i64 P, .int .i64 N, .slice co cn cc, .slice oo on oc], .int .i64 i, .bool k] W fun e w' => IbOut (fun j b => b = r ∧ (r = true → j = i) ∧ (r = false → j = 0)) e ∧ Hid (Below W.heap.size W w')) := Lib.hid (fun i k r W h q => existing_any ⟨P, N, co, cn, cc, oo, on, oc, cs, os⟩ i k W h HOK.out r q)
  have HFC : Hid (∀ W, Fv.At ⟨P, N, co, cn, cc, oo, on, oc, cs, os⟩ W → Calls Tryz.prog 37 #[.agg #[.int .i64 P, .int .i64 N, .slice co cn cc, .slice oo on oc], .int .i64 u] W fun e w' => IbOut (TillCoreIs ⟨P, N, co, cn, cc, oo, on, oc, cs, os⟩ u) e ∧ Hid (Below W.heap.size W w')) := Lib.hid (fun W h => tillCore_any ⟨P, N, co, cn, cc, oo, on, oc, cs, os⟩ u W h HRT.out HOK.out hc10 u1 u2)
  have HBE : Hid (∀ i W, Fv.At ⟨P, N, co, cn, cc, oo, on, oc, cs, os⟩ W → -9223372036854775808 ≤ i → i ≤ 9223372036854775807 → Calls Tryz.prog 38 #[.agg #[.int .i64 P, .int .i64 N, .slice co cn cc, .slice oo on oc], .int .i64 i] W fun e w' => IbOut (DnIs ⟨P, N, co, cn, cc, oo, on, oc, cs, os⟩ i) e ∧ Hid (Below W.heap.size W w')) := Lib.hid (fun i W h a b => before2_any ⟨P, N, co, cn, cc, oo, on, oc, cs, os⟩ i W h HOK.out a b)
  have HS : Hid (∀ W, Fbox ⟨P, N, co, cn, cc, oo, on, oc, cs, os⟩ w W b → W.cell? ⟨b, 0, none⟩ = some (.int .i64 P) ∧ W.cell? ⟨b, 1, none⟩ = some (.int .i64 N) ∧ W.cell? ⟨b, 2, none⟩ = some (.slice co cn cc) ∧ W.cell? ⟨b, 3, none⟩ = some (.slice oo on oc) ∧ Hid (Fbox ⟨P, N, co, cn, cc, oo, on, oc, cs, os⟩ w W b)) := Lib.hid (fun W h => ⟨h.c0, h.c1, h.c2, h.c3, Lib.hid h⟩)
  have HWR : Hid (IntKind.i64.wrap (u + 1) = u + 1) := Lib.hid (IntWalk.i64_in _ (by omega))
  go_upto_region 4 with fail
  clear hu
  refine wp_region_held_drew (S := (fun W => W.cell? ⟨b, 0, none⟩ = some (.int .i64 P) ∧ W.cell? ⟨b, 1, none⟩ = some (.int .i64 N) ∧ W.cell? ⟨b, 2, none⟩ = some (.slice co cn cc) ∧ W.cell? ⟨b, 3, none⟩ = some (.slice oo on oc) ∧ Hid (Fbox ⟨P, N, co, cn, cc, oo, on, oc, cs, os⟩ w W b))) (by kernel_rfl) ?_ (fun hHeld => ?_)
  · exact HS.out _ (HBB.out.keep (Below.refl _ _).drew)
  refine wpAnyH_take (i := 0) (oi := _) (v := ?_) rfl (by kernel_rfl) (by kernel_rfl) (by kernel_rfl) (fun _ _ _ h => h) (Or.inl ⟨by kernel_rfl, ?_⟩) (by assumption) ?_
  rotate_left 1
  focus (intro wq hSw; (try dsimp only at hSw); obtain ⟨s0, s1, s2, s3, s4⟩ := hSw; go_simp; (try with_reducible rfl); done)
  try simp only [List.getElem_toArray, List.getElem_cons_zero, List.getElem_cons_succ, Act.put, List.setIfInBounds_toArray, List.set_cons_zero, List.set_cons_succ]
  refine wpAnyH_take (i := 1) (oi := _) (v := ?_) rfl (by kernel_rfl) (by kernel_rfl) (by kernel_rfl) (fun _ _ _ h => h) (Or.inl ⟨by kernel_rfl, ?_⟩) (by assumption) ?_
  rotate_left 1
  focus (intro wq hSw; (try dsimp only at hSw); obtain ⟨s0, s1, s2, s3, s4⟩ := hSw; go_simp; (try with_reducible rfl); done)
  try simp only [List.getElem_toArray, List.getElem_cons_zero, List.getElem_cons_succ, Act.put, List.setIfInBounds_toArray, List.set_cons_zero, List.set_cons_succ]
  refine wpAnyH_take (i := 2) (oi := _) (v := ?_) rfl (by kernel_rfl) (by kernel_rfl) (by kernel_rfl) (fun _ _ _ h => h) (Or.inl ⟨by kernel_rfl, ?_⟩) (by assumption) ?_
  rotate_left 1
  focus (intro wq hSw; (try dsimp only at hSw); obtain ⟨s0, s1, s2, s3, s4⟩ := hSw; go_simp; (try with_reducible rfl); done)
  try simp only [List.getElem_toArray, List.getElem_cons_zero, List.getElem_cons_succ, Act.put, List.setIfInBounds_toArray, List.set_cons_zero, List.set_cons_succ]
  refine wpAnyH_take (i := 3) (oi := _) (v := ?_) rfl (by kernel_rfl) (by kernel_rfl) (by kernel_rfl) (fun _ _ _ h => h) (Or.inl ⟨by kernel_rfl, ?_⟩) (by assumption) ?_
  rotate_left 1
  focus (intro wq hSw; (try dsimp only at hSw); obtain ⟨s0, s1, s2, s3, s4⟩ := hSw; go_simp; (try with_reducible rfl); done)
  try simp only [List.getElem_toArray, List.getElem_cons_zero, List.getElem_cons_succ, Act.put, List.setIfInBounds_toArray, List.set_cons_zero, List.set_cons_succ]
  refine wpAnyH_take (i := 5) (oi := _) (v := ?_) rfl (by kernel_rfl) (by kernel_rfl) (by kernel_rfl) (fun _ _ _ h => h) (Or.inl ⟨by kernel_rfl, ?_⟩) (by assumption) ?_
  rotate_left 1
  focus (intro wq hSw; (try dsimp only at hSw); obtain ⟨s0, s1, s2, s3, s4⟩ := hSw; go_simp; (try with_reducible rfl); done)
  try simp only [List.getElem_toArray, List.getElem_cons_zero, List.getElem_cons_succ, Act.put, List.setIfInBounds_toArray, List.set_cons_zero, List.set_cons_succ]
  refine wpAnyH_take (i := 6) (oi := _) (v := ?_) rfl (by kernel_rfl) (by kernel_rfl) (by kernel_rfl) (fun _ _ _ h => h) (Or.inl ⟨by kernel_rfl, ?_⟩) (by assumption) ?_
  rotate_left 1
  focus (intro wq hSw; (try dsimp only at hSw); obtain ⟨s0, s1, s2, s3, s4⟩ := hSw; go_simp; (try with_reducible rfl); done)
  try simp only [List.getElem_toArray, List.getElem_cons_zero, List.getElem_cons_succ, Act.put, List.setIfInBounds_toArray, List.set_cons_zero, List.set_cons_succ]
  refine wpAnyH_ready (rs := [4]) (by kernel_rfl) (by simp) ?_
  refine AllReadyH.cons (o := _) rfl (fun K hK => ?_) AllReadyH.nil
  rw [if_pos (by kernel_rfl)]
  go_simp
  (go_at_call 30; (with_reducible refine (HCO.out _ hHeld.2.2.2.2.out.at_).mono ?_); rintro e z1 ⟨g, rfl, HG3, q⟩)
  first | refine hK.out _ _ ?_ (fun hHeld => ?_) | (go_wp2_with fail; refine hK.out _ _ ?_ (fun hHeld => ?_))
  · exact HS.out _ (hHeld.2.2.2.2.out.keep q)
  clear hK K
  try simp only [List.getElem_toArray, List.getElem_cons_zero, List.getElem_cons_succ, Act.put, List.setIfInBounds_toArray, List.set_cons_zero, List.set_cons_succ]
  refine wpAnyH_ready (rs := [7]) (by kernel_rfl) (by simp) ?_
  refine AllReadyH.cons (o := _) rfl (fun K hK => ?_) AllReadyH.nil
  rw [if_pos (by kernel_rfl)]
  go_simp
  (go_at_call 29; rw [HWR.out]; (with_reducible refine (HLS.out _ g HG3.out hHeld.2.2.2.2.out.at_).mono ?_); rintro e z2 ⟨n, rfl, HLE, q⟩)
  first | refine hK.out _ _ ?_ (fun hHeld => ?_) | (go_wp2_with fail; refine hK.out _ _ ?_ (fun hHeld => ?_))
  · exact HS.out _ (hHeld.2.2.2.2.out.keep q)
  clear hK K
  try simp only [List.getElem_toArray, List.getElem_cons_zero, List.getElem_cons_succ, Act.put, List.setIfInBounds_toArray, List.set_cons_zero, List.set_cons_succ]
  refine wpAnyH_take (i := 8) (oi := _) (v := ?_) rfl (by kernel_rfl) (by kernel_rfl) (by kernel_rfl) (fun _ _ _ h => h) (Or.inl ⟨by kernel_rfl, ?_⟩) (by assumption) ?_
  rotate_left 1
  focus (intro wq hSw; (try dsimp only at hSw); obtain ⟨s0, s1, s2, s3, s4⟩ := hSw; go_simp; (try with_reducible rfl); done)
  try simp only [List.getElem_toArray, List.getElem_cons_zero, List.getElem_cons_succ, Act.put, List.setIfInBounds_toArray, List.set_cons_zero, List.set_cons_succ]
  refine wpAnyH_done (by kernel_rfl) ?_ _
  have HBB := Lib.hid hHeld.2.2.2.2.out
  clear hHeld HS HLS HCO
  have e0 : z2.cell? ⟨b, 0, none⟩ = some (.int .i64 P) := HBB.out.c0
  have e1 : z2.cell? ⟨b, 1, none⟩ = some (.int .i64 N) := HBB.out.c1
  have e2 : z2.cell? ⟨b, 2, none⟩ = some (.slice co cn cc) := HBB.out.c2
  have e3 : z2.cell? ⟨b, 3, none⟩ = some (.slice oo on oc) := HBB.out.c3
  obtain ⟨nl, nh, nlow⟩ := least_low HLE.out
  have HNL := Lib.hid nl
  have HNH := Lib.hid nh
  have HNW := Lib.hid nlow
  have hno : n ≤ on := by rw [← LO.out]; exact nl
  clear nl nh nlow
  go_wp2_with fail
  (with_reducible refine (HOB.out n _ HBB.out.at_ hno).mono ?_)
  rintro e w4 ⟨⟨ea, sm, rfl, hea⟩, q⟩
  have HBB := Lib.hid (HBB.out.keep q.out)
  clear e0 e1 e2 e3 q
  have e0 : w4.cell? ⟨b, 0, none⟩ = some (.int .i64 P) := HBB.out.c0
  have e1 : w4.cell? ⟨b, 1, none⟩ = some (.int .i64 N) := HBB.out.c1
  have e2 : w4.cell? ⟨b, 2, none⟩ = some (.slice co cn cc) := HBB.out.c2
  have e3 : w4.cell? ⟨b, 3, none⟩ = some (.slice oo on oc) := HBB.out.c3
  have HEA := Lib.hid hea
  clear hea HOB
  go_wp2_with fail
  (with_reducible refine (HFC.out _ HBB.out.at_).mono ?_)
  rintro e w3 ⟨⟨c, okc, rfl, hfc⟩, q⟩
  have HBB := Lib.hid (HBB.out.keep q.out)
  clear e0 e1 e2 e3 q
  have e0 : w3.cell? ⟨b, 0, none⟩ = some (.int .i64 P) := HBB.out.c0
  have e1 : w3.cell? ⟨b, 1, none⟩ = some (.int .i64 N) := HBB.out.c1
  have e2 : w3.cell? ⟨b, 2, none⟩ = some (.slice co cn cc) := HBB.out.c2
  have e3 : w3.cell? ⟨b, 3, none⟩ = some (.slice oo on oc) := HBB.out.c3
  have hfc1 := Lib.hid hfc
  clear hfc
  by_cases take : sm = true ∧ (okc = false ∨ c ≤ ea)
  · obtain ⟨hsm, tk⟩ := take
    subst hsm
    have HZ : Hid (TillIs ⟨P, N, co, cn, cc, oo, on, oc, cs, os⟩ t ea true) := Lib.hid (HCL.out _ _ (by
      obtain ⟨m, hm, m1, m2, m3, m4⟩ := HEA.out.1 rfl
      have := till_odd HRT.out HOK.out HLN.out (t := u) (c := c) (late := n) (okc := okc) hm m1 m2 m4 HNH.out HNW.out hfc1.out (fun z => by
        rcases tk with y | y
        · rw [z] at y; cases y
        · show c ≤ (os[m]'hm).1
          rw [m3]; exact y)
      rw [← m3]; exact this))
    obtain ⟨ea1, ea2⟩ := early_in HOK.out HEA.out rfl
    cases okc
    · clear tk
      go_wp2
      go_returns
      exact ⟨⟨ea, true, rfl, HZ.out⟩, Lib.hid HBB.out.bw⟩
    · have le : c ≤ ea := by
        rcases tk with y | y
        · cases y
        · exact y
      have t42 : decide (c ≤ ea) = true := by simp; exact le
      clear tk
      go_wp2
      go_returns
      exact ⟨⟨ea, true, rfl, HZ.out⟩, Lib.hid HBB.out.bw⟩
  · cases okc
    · have hsm : sm = false := by cases sm; rfl; exact absurd ⟨rfl, .inl rfl⟩ take
      subst hsm
      clear take
      have HZ : Hid (TillIs ⟨P, N, co, cn, cc, oo, on, oc, cs, os⟩ t 0 false) := Lib.hid (HCL.out _ _ (till_none HRT.out HOK.out HLN.out (HEA.out.2 rfl) HNH.out hfc1.out))
      go_wp2
      go_returns
      exact ⟨⟨0, false, rfl, HZ.out⟩, Lib.hid HBB.out.bw⟩
    · obtain ⟨⟨c1, c2⟩, _⟩ := hfc1.out.1 rfl
      have HEL : Hid (∀ m (q : m < os.length), m < n → os[m].2 ≠ [] → os[m].1 < c) := Lib.hid (fun m q a b => by
        cases sm with
        | false => exact absurd (HEA.out.2 rfl m q a) b
        | true =>
          have := early_le HOK.out.odd.inc HEA.out m q a b
          have : (os[m]'q).1 ≤ ea := this
          rcases Int.lt_or_le ea c with z | z
          · show (os[m]'q).1 < c; omega
          · exact absurd ⟨rfl, .inr z⟩ take)
      cases sm
      · clear take
        by_cases hn : n < on
        · have t54 : decide ((n : Int) < (on : Int)) = true := by simp; exact hn
          have hn2 : n < os.length := by rw [LO.out]; exact hn
          have n0 : (0 : Int) ≤ (n : Int) := by omega
          have n1 : (n : Int) < (on : Int) := by omega
          obtain ⟨g2, p2, rfl, hcell⟩ := (show OdAt w3 oo on oc os from HBB.out.at_.odd).here (by omega)
          obtain ⟨x0, -, x1, x2⟩ := hcell n hn2
          obtain ⟨X, hX⟩ : ∃ X, (os[n]'hn2).1 = X := ⟨_, rfl⟩
          rw [hX] at x0 x1 x2
          obtain ⟨i, hi⟩ : ∃ i, min (c + 1) X = i := ⟨_, rfl⟩
          have i1 : -9223372036854775808 ≤ i := by omega
          have i2 : i ≤ 9223372036854775807 := by omega
          have HI1 : Hid (i ≤ c + 1) := Lib.hid (by omega)
          have HI2 : Hid (∀ q : n < os.length, i ≤ os[n].1) := Lib.hid (fun q => by show i ≤ (os[n]'q).1; rw [hX]; omega)
          have HI3 : Hid (i = c + 1 ∨ ∃ q : n < os.length, i = os[n].1) := Lib.hid (by
            by_cases z : c + 1 ≤ X
            · exact .inl (by omega)
            · exact .inr ⟨hn2, by show i = (os[n]'hn2).1; rw [hX]; omega⟩)
          clear hcell hX
          go_wp2_with fail
          (with_reducible refine (HBE.out i _ HBB.out.at_ i1 i2).mono ?_)
          rintro e w5 ⟨⟨j, okb, rfl, hub⟩, q⟩
          have HBB := Lib.hid (HBB.out.keep q.out)
          clear e0 e1 e2 e3 q
          have e0 : w5.cell? ⟨b, 0, none⟩ = some (.int .i64 P) := HBB.out.c0
          have e1 : w5.cell? ⟨b, 1, none⟩ = some (.int .i64 N) := HBB.out.c1
          have e2 : w5.cell? ⟨b, 2, none⟩ = some (.slice co cn cc) := HBB.out.c2
          have e3 : w5.cell? ⟨b, 3, none⟩ = some (.slice (some ⟨g2, p2, none⟩) on oc) := HBB.out.c3
          have HUB := Lib.hid hub
          clear hub HBE hi
          obtain ⟨r, hr⟩ : ∃ r : Bool, r = true ↔ okb = true ∧ Ex ⟨P, N, co, cn, cc, some ⟨g2, p2, none⟩, on, oc, cs, os⟩ j := by classical exact ⟨decide _, decide_eq_true_iff⟩
          have HZ := Lib.hid (HCL.out _ _ (till_core HRT.out HOK.out HLN.out u2 HNL.out HNH.out HNW.out HEL.out hfc1.out HI1.out HI2.out HI3.out HUB.out hr))
          have HXX := Lib.hid (fun W h => HEX.out j okb r W h hr)
          clear hr
          go_wp2_with fail
          (with_reducible refine (HXX.out _ HBB.out.at_).mono ?_)
          rintro e w8 ⟨⟨j2, r2, rfl, rfl, h1, h2⟩, q⟩
          have HBB := Lib.hid (HBB.out.keep q.out)
          clear e0 e1 e2 e3 q
          have HJ : Hid ((if r2 then j else 0) = j2) := Lib.hid (by cases r2; exact (h2 rfl).symm; exact (h1 rfl).symm)
          rw [HJ.out] at HZ
          clear h1 h2 HXX HEX
          go_wp2
          go_returns
          exact ⟨⟨j2, r2, rfl, HZ.out⟩, Lib.hid HBB.out.bw⟩
        · have t54 : decide ((n : Int) < (on : Int)) = false := by simp; omega
          have hn3 : ¬ n < on := hn
          obtain ⟨i, hi⟩ : ∃ i, c + 1 = i := ⟨_, rfl⟩
          have i1 : -9223372036854775808 ≤ i := by omega
          have i2 : i ≤ 9223372036854775807 := by omega
          have HI1 : Hid (i ≤ c + 1) := Lib.hid (by omega)
          have HI2 : Hid (∀ q : n < os.length, i ≤ os[n].1) := Lib.hid (fun q => absurd (by rw [← LO.out]; exact q) hn3)
          have HI3 : Hid (i = c + 1 ∨ ∃ q : n < os.length, i = os[n].1) := Lib.hid (.inl hi.symm)
          go_wp2_with fail
          (with_reducible refine (HBE.out i _ HBB.out.at_ i1 i2).mono ?_)
          rintro e w5 ⟨⟨j, okb, rfl, hub⟩, q⟩
          have HBB := Lib.hid (HBB.out.keep q.out)
          clear e0 e1 e2 e3 q
          have e0 : w5.cell? ⟨b, 0, none⟩ = some (.int .i64 P) := HBB.out.c0
          have e1 : w5.cell? ⟨b, 1, none⟩ = some (.int .i64 N) := HBB.out.c1
          have e2 : w5.cell? ⟨b, 2, none⟩ = some (.slice co cn cc) := HBB.out.c2
          have e3 : w5.cell? ⟨b, 3, none⟩ = some (.slice oo on oc) := HBB.out.c3
          have HUB := Lib.hid hub
          clear hub HBE hi
          obtain ⟨r, hr⟩ : ∃ r : Bool, r = true ↔ okb = true ∧ Ex ⟨P, N, co, cn, cc, oo, on, oc, cs, os⟩ j := by classical exact ⟨decide _, decide_eq_true_iff⟩
          have HZ := Lib.hid (HCL.out _ _ (till_core HRT.out HOK.out HLN.out u2 HNL.out HNH.out HNW.out HEL.out hfc1.out HI1.out HI2.out HI3.out HUB.out hr))
          have HXX := Lib.hid (fun W h => HEX.out j okb r W h hr)
          clear hr
          go_wp2_with fail
          (with_reducible refine (HXX.out _ HBB.out.at_).mono ?_)
          rintro e w8 ⟨⟨j2, r2, rfl, rfl, h1, h2⟩, q⟩
          have HBB := Lib.hid (HBB.out.keep q.out)
          clear e0 e1 e2 e3 q
          have HJ : Hid ((if r2 then j else 0) = j2) := Lib.hid (by cases r2; exact (h2 rfl).symm; exact (h1 rfl).symm)
          rw [HJ.out] at HZ
          clear h1 h2 HXX HEX
          go_wp2
          go_returns
          exact ⟨⟨j2, r2, rfl, HZ.out⟩, Lib.hid HBB.out.bw⟩
      · have gt : ea < c := by
          rcases Int.lt_or_le ea c with z | z
          · exact z
          · exact absurd ⟨rfl, .inr z⟩ take
        have t42 : decide (c ≤ ea) = false := by simp; omega
        clear take
        by_cases hn : n < on
        · have t54 : decide ((n : Int) < (on : Int)) = true := by simp; exact hn
          have hn2 : n < os.length := by rw [LO.out]; exact hn
          have n0 : (0 : Int) ≤ (n : Int) := by omega
          have n1 : (n : Int) < (on : Int) := by omega
          obtain ⟨g2, p2, rfl, hcell⟩ := (show OdAt w3 oo on oc os from HBB.out.at_.odd).here (by omega)
          obtain ⟨x0, -, x1, x2⟩ := hcell n hn2
          obtain ⟨X, hX⟩ : ∃ X, (os[n]'hn2).1 = X := ⟨_, rfl⟩
          rw [hX] at x0 x1 x2
          obtain ⟨i, hi⟩ : ∃ i, min (c + 1) X = i := ⟨_, rfl⟩
          have i1 : -9223372036854775808 ≤ i := by omega
          have i2 : i ≤ 9223372036854775807 := by omega
          have HI1 : Hid (i ≤ c + 1) := Lib.hid (by omega)
          have HI2 : Hid (∀ q : n < os.length, i ≤ os[n].1) := Lib.hid (fun q => by show i ≤ (os[n]'q).1; rw [hX]; omega)
          have HI3 : Hid (i = c + 1 ∨ ∃ q : n < os.length, i = os[n].1) := Lib.hid (by
            by_cases z : c + 1 ≤ X
            · exact .inl (by omega)
            · exact .inr ⟨hn2, by show i = (os[n]'hn2).1; rw [hX]; omega⟩)
          clear hcell hX
          go_wp2_with fail
          (with_reducible refine (HBE.out i _ HBB.out.at_ i1 i2).mono ?_)
          rintro e w5 ⟨⟨j, okb, rfl, hub⟩, q⟩
          have HBB := Lib.hid (HBB.out.keep q.out)
          clear e0 e1 e2 e3 q
          have e0 : w5.cell? ⟨b, 0, none⟩ = some (.int .i64 P) := HBB.out.c0
          have e1 : w5.cell? ⟨b, 1, none⟩ = some (.int .i64 N) := HBB.out.c1
          have e2 : w5.cell? ⟨b, 2, none⟩ = some (.slice co cn cc) := HBB.out.c2
          have e3 : w5.cell? ⟨b, 3, none⟩ = some (.slice (some ⟨g2, p2, none⟩) on oc) := HBB.out.c3
          have HUB := Lib.hid hub
          clear hub HBE hi
          obtain ⟨r, hr⟩ : ∃ r : Bool, r = true ↔ okb = true ∧ Ex ⟨P, N, co, cn, cc, some ⟨g2, p2, none⟩, on, oc, cs, os⟩ j := by classical exact ⟨decide _, decide_eq_true_iff⟩
          have HZ := Lib.hid (HCL.out _ _ (till_core HRT.out HOK.out HLN.out u2 HNL.out HNH.out HNW.out HEL.out hfc1.out HI1.out HI2.out HI3.out HUB.out hr))
          have HXX := Lib.hid (fun W h => HEX.out j okb r W h hr)
          clear hr
          go_wp2_with fail
          (with_reducible refine (HXX.out _ HBB.out.at_).mono ?_)
          rintro e w8 ⟨⟨j2, r2, rfl, rfl, h1, h2⟩, q⟩
          have HBB := Lib.hid (HBB.out.keep q.out)
          clear e0 e1 e2 e3 q
          have HJ : Hid ((if r2 then j else 0) = j2) := Lib.hid (by cases r2; exact (h2 rfl).symm; exact (h1 rfl).symm)
          rw [HJ.out] at HZ
          clear h1 h2 HXX HEX
          go_wp2
          go_returns
          exact ⟨⟨j2, r2, rfl, HZ.out⟩, Lib.hid HBB.out.bw⟩
        · have t54 : decide ((n : Int) < (on : Int)) = false := by simp; omega
          have hn3 : ¬ n < on := hn
          obtain ⟨i, hi⟩ : ∃ i, c + 1 = i := ⟨_, rfl⟩
          have i1 : -9223372036854775808 ≤ i := by omega
          have i2 : i ≤ 9223372036854775807 := by omega
          have HI1 : Hid (i ≤ c + 1) := Lib.hid (by omega)
          have HI2 : Hid (∀ q : n < os.length, i ≤ os[n].1) := Lib.hid (fun q => absurd (by rw [← LO.out]; exact q) hn3)
          have HI3 : Hid (i = c + 1 ∨ ∃ q : n < os.length, i = os[n].1) := Lib.hid (.inl hi.symm)
          go_wp2_with fail
          (with_reducible refine (HBE.out i _ HBB.out.at_ i1 i2).mono ?_)
          rintro e w5 ⟨⟨j, okb, rfl, hub⟩, q⟩
          have HBB := Lib.hid (HBB.out.keep q.out)
          clear e0 e1 e2 e3 q
          have e0 : w5.cell? ⟨b, 0, none⟩ = some (.int .i64 P) := HBB.out.c0
          have e1 : w5.cell? ⟨b, 1, none⟩ = some (.int .i64 N) := HBB.out.c1
          have e2 : w5.cell? ⟨b, 2, none⟩ = some (.slice co cn cc) := HBB.out.c2
          have e3 : w5.cell? ⟨b, 3, none⟩ = some (.slice oo on oc) := HBB.out.c3
          have HUB := Lib.hid hub
          clear hub HBE hi
          obtain ⟨r, hr⟩ : ∃ r : Bool, r = true ↔ okb = true ∧ Ex ⟨P, N, co, cn, cc, oo, on, oc, cs, os⟩ j := by classical exact ⟨decide _, decide_eq_true_iff⟩
          have HZ := Lib.hid (HCL.out _ _ (till_core HRT.out HOK.out HLN.out u2 HNL.out HNH.out HNW.out HEL.out hfc1.out HI1.out HI2.out HI3.out HUB.out hr))
          have HXX := Lib.hid (fun W h => HEX.out j okb r W h hr)
          clear hr
          go_wp2_with fail
          (with_reducible refine (HXX.out _ HBB.out.at_).mono ?_)
          rintro e w8 ⟨⟨j2, r2, rfl, rfl, h1, h2⟩, q⟩
          have HBB := Lib.hid (HBB.out.keep q.out)
          clear e0 e1 e2 e3 q
          have HJ : Hid ((if r2 then j else 0) = j2) := Lib.hid (by cases r2; exact (h2 rfl).symm; exact (h1 rfl).symm)
          rw [HJ.out] at HZ
          clear h1 h2 HXX HEX
          go_wp2
          go_returns
          exact ⟨⟨j2, r2, rfl, HZ.out⟩, Lib.hid HBB.out.bw⟩
end Go.Proofs.YtjhbgedobkpdhaaGreat
