/- FindAt: the walk. -/
import Derived.Test.YtjhbgedobkpdhaaEh
namespace Go.Proofs.Ytjhbgedobkpdhaa
set_option linter.unusedVariables false
set_option linter.unusedSimpArgs false
open Go.ChangeShapes Go.WideShapes Go.ChangeAt Go.RowKit
set_option maxRecDepth 8000 in
set_option maxHeartbeats 4000000 in
theorem at_walk (F : Fv) (i wh t : Int) (w : World) (hF : F.At w) (hi1 : -9223372036854775808 ≤ i) (hi2 : i ≤ 9223372036854775807) (hw1 : -9223372036854775808 ≤ wh) (hw2 : wh ≤ 9223372036854775807) (ht1 : -9223372036854775808 ≤ t) (ht2 : t ≤ 9223372036854775807) : Calls Try.prog 3 #[F.v, .int .i64 i, .int .i64 wh, .int .i64 t] w fun e w' => e = .returned (.bool true) ∧ Below w.heap.size w w' := by
  have HAW := Lib.hid (fun W => awake_any W)
  obtain ⟨r, hr⟩ : ∃ r : Bool, r = true ↔ F.Small ∧ F.Rt := by classical exact ⟨decide _, decide_eq_true_iff⟩
  have HRI := Lib.hid (fun W h => right_any2 F W h r hr)
  have HRT : Hid (r = true → F.Rt ∧ F.Ok ∧ F.cn ≤ 10000) := Lib.hid (fun q => ⟨(hr.1 q).2, (hr.1 q).2.ok (hr.1 q).1, Nat.le_trans (hr.1 q).1.1 (by decide)⟩)
  have HLN : Hid (F.cs.length = F.cn) := Lib.hid hF.core.len
  clear hr
  have HAT : Hid (r = true → ∀ t W, -9223372036854775808 ≤ t → t ≤ 9223372036854775807 → Fv.At F W → Calls Try.prog 13 #[F.v, .int .i64 t] W fun e w' => IbOut (AtIs F t) e ∧ Hid (Below W.heap.size W w')) := Lib.hid (fun q t W t1 t2 h => at_any F t W h (HRT.out q).1 (HRT.out q).2.1 (HRT.out q).2.2 t1 t2)
  have HFR : Hid (r = true → ∀ t W, -9223372036854775808 ≤ t → t ≤ 9223372036854775807 → Fv.At F W → Calls Try.prog 14 #[F.v, .int .i64 t] W fun e w' => IbOut (FromIs F t) e ∧ Hid (Below W.heap.size W w')) := Lib.hid (fun q t W t1 t2 h => from_any F t W h (HRT.out q).1 (HRT.out q).2.1 (HRT.out q).2.2 t1 t2)
  have HTI : Hid (r = true → ∀ t W, -9223372036854775808 ≤ t → t ≤ 9223372036854775807 → Fv.At F W → Calls Try.prog 15 #[F.v, .int .i64 t] W fun e w' => IbOut (TillIs F t) e ∧ Hid (Below W.heap.size W w')) := Lib.hid (fun q t W t1 t2 h => till_any F t W h (HRT.out q).1 (HRT.out q).2.1 (HRT.out q).2.2 t1 t2)
  have HGE : Hid (r = true → ∀ i W, Fv.At F W → Calls Try.prog 10 #[F.v, .int .i64 i] W fun e w' => ∃ (ao : Option Addr) (n c : Nat) (L : List Sp) (k : Int), e = .returned (.tuple #[.slice ao n c, .int .i64 k]) ∧ Hid (Below W.heap.size W w') ∧ Hid (SpAt w' ao n c L) ∧ ((k = 0 ∧ Hid (Told i (gr F i) ∧ L = gr F i)) ∨ (k = 20 ∧ n = 0 ∧ Hid (¬ Told i (gr F i))))) := Lib.hid (fun q i W h => get_any2 F i W h (HRT.out q).2.1 (gr F i) rfl)
  obtain ⟨P, N, co, cn, cc, oo, on, oc, cs, os⟩ := F
  have LC : Hid (cs.length = cn) := Lib.hid hF.core.len
  have LO : Hid (os.length = on) := Lib.hid hF.odd.len
  have hmc : cn ≤ 9223372036854775807 := Nat.le_trans hF.core.le hF.core.top
  have hmo : on ≤ 9223372036854775807 := Nat.le_trans hF.odd.le hF.odd.top
  obtain ⟨b, hb⟩ : ∃ b, w.heap.size = b := ⟨_, rfl⟩
  obtain ⟨wb, hwb⟩ : ∃ wb, w.alloc (.cells #[.int .i64 P, .int .i64 N, .slice co cn cc, .slice oo on oc] 25) = wb := ⟨_, rfl⟩
  have HBB : Hid (Fbox ⟨P, N, co, cn, cc, oo, on, oc, cs, os⟩ w wb b) := Lib.hid (by rw [← hwb, ← hb]; exact fbox_new hF)
  clear hF
  show Calls Try.prog 3 #[.agg #[.int .i64 P, .int .i64 N, .slice co cn cc, .slice oo on oc], .int .i64 i, .int .i64 wh, .int .i64 t] w _
  go_enter Try.func3, Try.ntmps3
  go_upto_region 1 with fail
  clear hwb hb
  have e0 : wb.cell? ⟨b, 0, none⟩ = some (.int .i64 P) := HBB.out.c0
  have e1 : wb.cell? ⟨b, 1, none⟩ = some (.int .i64 N) := HBB.out.c1
  have e2 : wb.cell? ⟨b, 2, none⟩ = some (.slice co cn cc) := HBB.out.c2
  have e3 : wb.cell? ⟨b, 3, none⟩ = some (.slice oo on oc) := HBB.out.c3
  have HRI : Hid (∀ W, Fv.At ⟨P, N, co, cn, cc, oo, on, oc, cs, os⟩ W → Calls Try.prog 8 #[.agg #[.int .i64 P, .int .i64 N, .slice co cn cc, .slice oo on oc]] W fun e w' => e = .returned (.bool r) ∧ Below W.heap.size W w') := HRI
  have HRT : Hid (r = true → Fv.Rt ⟨P, N, co, cn, cc, oo, on, oc, cs, os⟩ ∧ Fv.Ok ⟨P, N, co, cn, cc, oo, on, oc, cs, os⟩ ∧ cn ≤ 10000) := HRT
  have HLN : Hid ((Fv.cs ⟨P, N, co, cn, cc, oo, on, oc, cs, os⟩).length = Fv.cn ⟨P, N, co, cn, cc, oo, on, oc, cs, os⟩) := HLN
  have HAT : Hid (r = true → ∀ t W, -9223372036854775808 ≤ t → t ≤ 9223372036854775807 → Fv.At ⟨P, N, co, cn, cc, oo, on, oc, cs, os⟩ W → Calls Try.prog 13 #[.agg #[.int .i64 P, .int .i64 N, .slice co cn cc, .slice oo on oc], .int .i64 t] W fun e w' => IbOut (AtIs ⟨P, N, co, cn, cc, oo, on, oc, cs, os⟩ t) e ∧ Hid (Below W.heap.size W w')) := HAT
  have HFR : Hid (r = true → ∀ t W, -9223372036854775808 ≤ t → t ≤ 9223372036854775807 → Fv.At ⟨P, N, co, cn, cc, oo, on, oc, cs, os⟩ W → Calls Try.prog 14 #[.agg #[.int .i64 P, .int .i64 N, .slice co cn cc, .slice oo on oc], .int .i64 t] W fun e w' => IbOut (FromIs ⟨P, N, co, cn, cc, oo, on, oc, cs, os⟩ t) e ∧ Hid (Below W.heap.size W w')) := HFR
  have HTI : Hid (r = true → ∀ t W, -9223372036854775808 ≤ t → t ≤ 9223372036854775807 → Fv.At ⟨P, N, co, cn, cc, oo, on, oc, cs, os⟩ W → Calls Try.prog 15 #[.agg #[.int .i64 P, .int .i64 N, .slice co cn cc, .slice oo on oc], .int .i64 t] W fun e w' => IbOut (TillIs ⟨P, N, co, cn, cc, oo, on, oc, cs, os⟩ t) e ∧ Hid (Below W.heap.size W w')) := HTI
  have HGE : Hid (r = true → ∀ i W, Fv.At ⟨P, N, co, cn, cc, oo, on, oc, cs, os⟩ W → Calls Try.prog 10 #[.agg #[.int .i64 P, .int .i64 N, .slice co cn cc, .slice oo on oc], .int .i64 i] W fun e w' => ∃ (ao : Option Addr) (n c : Nat) (L : List Sp) (k : Int), e = .returned (.tuple #[.slice ao n c, .int .i64 k]) ∧ Hid (Below W.heap.size W w') ∧ Hid (SpAt w' ao n c L) ∧ ((k = 0 ∧ Hid (Told i (gr ⟨P, N, co, cn, cc, oo, on, oc, cs, os⟩ i) ∧ L = gr ⟨P, N, co, cn, cc, oo, on, oc, cs, os⟩ i)) ∨ (k = 20 ∧ n = 0 ∧ Hid (¬ Told i (gr ⟨P, N, co, cn, cc, oo, on, oc, cs, os⟩ i))))) := HGE
  go_wp2_with fail
  (with_reducible refine (HRI.out _ HBB.out.at_).mono ?_)
  rintro e w2 ⟨rfl, q⟩
  have HBB := Lib.hid (HBB.out.keep q)
  clear q e0 e1 e2 e3 HRI
  cases r
  · clear HRT
    go_wp2_with fail
    (with_reducible refine (HAW.out _).mono ?_)
    rintro e w9 ⟨rfl, q⟩
    have HBB := Lib.hid (HBB.out.keep q)
    clear q
    go_wp2
    go_returns
    exact ⟨rfl, HBB.out.bw⟩
  · have HRD := Lib.hid (HRT.out rfl)
    have e0 : w2.cell? ⟨b, 0, none⟩ = some (.int .i64 P) := HBB.out.c0
    have e1 : w2.cell? ⟨b, 1, none⟩ = some (.int .i64 N) := HBB.out.c1
    have e2 : w2.cell? ⟨b, 2, none⟩ = some (.slice co cn cc) := HBB.out.c2
    have e3 : w2.cell? ⟨b, 3, none⟩ = some (.slice oo on oc) := HBB.out.c3
    go_wp2_with fail
    (with_reducible refine (HGE.out (by first | rfl | trivial) i _ HBB.out.at_).mono ?_)
    rintro e w3 ⟨a1, n1, c1, L1, k1, rfl, q, HS1, HR1⟩
    have HBB := Lib.hid (HBB.out.keep q.out)
    clear q e0 e1 e2 e3
    go_upto_region 4 with fail
    obtain ⟨tb, htb⟩ : ∃ tb : Bool, (tb = true ↔ k1 = 0 ∧ 0 < n1) := by classical exact ⟨decide _, decide_eq_true_iff⟩
    have HTB := Lib.hid htb
    clear htb
    go_cut [34] from 28 to 34 (fun s34 wx => s34 = .bool tb ∧ wx = w3)
    case first =>
      by_cases h1 : k1 = 0
      · subst h1
        by_cases h2 : 0 < n1
        · have h3 : tb = true := HTB.out.2 ⟨rfl, h2⟩
          subst h3
          clear HTB HR1
          go_wp2
          go_meet
          case rel => exact ⟨rfl, rfl⟩
        · have h4 : n1 = 0 := by omega
          have h3 : tb = false := by
            cases tb
            · rfl
            · exact absurd (HTB.out.1 rfl).2 h2
          subst h4 h3
          clear HTB HR1 h2
          go_wp2
          go_meet
          case rel => exact ⟨rfl, rfl⟩
      · have h3 : tb = false := by
          cases tb
          · rfl
          · exact absurd (HTB.out.1 rfl).1 h1
        have h4 : (k1 == 0) = false := by simp; exact h1
        subst h3
        clear HTB HR1
        go_wp2
        go_meet
        case rel => exact ⟨rfl, rfl⟩
    case rest =>
    obtain ⟨rfl, rfl⟩ := hcut
    go_upto_if 34 with fail
    go_cut [11, 13] from 35 to 92 (fun s11 s13 wx => Hid (Fbox ⟨P, N, co, cn, cc, oo, on, oc, cs, os⟩ w wx b))
    case first =>
      cases tb
      · clear HTB HR1 HS1
        go_wp2
        go_meet
        case rel => exact Lib.hid HBB.out
      · obtain ⟨rfl, f1⟩ := HTB.out.1 rfl
        clear HTB
        rcases HR1 with ⟨_, HT⟩ | ⟨z, _, _⟩
        rotate_left 1
        · cases z
        obtain ⟨hT, rfl⟩ := HT.out
        have HEX : Hid (Ex ⟨P, N, co, cn, cc, oo, on, oc, cs, os⟩ i) := Lib.hid ⟨hT.1, hT.2, fun e => by have := HS1.out.len; rw [e] at this; simp at this; omega⟩
        have HNL : Hid (n1 ≤ 1000000) := Lib.hid (by rw [← HS1.out.len]; exact gr_len HRD.out.2.1 i)
        have HIN := Lib.hid (into_any wh n1 wc (by omega) (by have := HNL.out; omega))
        clear HT hT
        go_wp2_with fail
        (with_reducible refine HIN.out.mono ?_)
        rintro e w4 ⟨d, rfl, hd, rfl⟩
        obtain ⟨d1, p1, rfl, hc⟩ := HS1.out.here (by omega)
        have hdl : d < (gr ⟨P, N, co, cn, cc, oo, on, oc, cs, os⟩ i).length := by rw [HS1.out.len]; omega
        obtain ⟨c4, c5⟩ := hc d hdl
        have HMA := Lib.hid (fun (x : Int) (h1 : (gr ⟨P, N, co, cn, cc, oo, on, oc, cs, os⟩ i)[d].1 ≤ x) (h2 : x ≤ (gr ⟨P, N, co, cn, cc, oo, on, oc, cs, os⟩ i)[d].2) => at_cell (gr_good' HRD.out.2.1 HEX.out) hdl h1 h2)
        have HFI := HEX.out.2.1 _ (List.getElem_mem hdl)
        have HAB := (good_at (gr_good' HRD.out.2.1 HEX.out) d hdl).2.1
        generalize (gr ⟨P, N, co, cn, cc, oo, on, oc, cs, os⟩ i)[d].1 = A at *
        generalize (gr ⟨P, N, co, cn, cc, oo, on, oc, cs, os⟩ i)[d].2 = B at *
        obtain ⟨⟨r1, r2⟩, q3, q4⟩ := HFI
        clear hc hdl
        obtain ⟨M, hM⟩ : ∃ M, A + (B - A) / 2 = M := ⟨_, rfl⟩
        have m1 : A ≤ M := by omega
        have m2 : M ≤ B := by omega
        obtain ⟨s3, hs3⟩ : ∃ s, w4.heap.size = s := ⟨_, rfl⟩
        obtain ⟨r3, hr3⟩ : ∃ s, s3 + 1 = s := ⟨_, rfl⟩
        go_upto_region 6 with fail
        go_wp2
        obtain ⟨wl, hwl⟩ : ∃ wl, (w4.alloc (.cells #[.int .i64 A, .int .i64 B] 33)).alloc (.cells #[.int .i64 A, .int .i64 B, .int .i64 M] 3) = wl := ⟨_, rfl⟩
        have KL : Below w4.heap.size w4 wl := by rw [← hwl]; exact (((Below.refl _ w4).alloc (Nat.le_refl _) _).alloc (by simp) _)
        have HC3 : Hid (wl.heap[r3]? = some (.cells #[.int .i64 A, .int .i64 B, .int .i64 M] 3 (0, 0))) := Lib.hid (by rw [← hwl]; exact heap_at (by simp; omega))
        have HBB := Lib.hid (HBB.out.keep KL)
        have HXS : Hid (∀ k : Nat, k < 3 → ∀ W, Below wl.heap.size wl W → ∃ x, W.cell? ⟨r3, k, none⟩ = some (.int .i64 x) ∧ -9223372036854775808 ≤ x ∧ x ≤ 9223372036854775807 ∧ Hid (mem (gr ⟨P, N, co, cn, cc, oo, on, oc, cs, os⟩ i) x)) := Lib.hid (fun k hk W h => by
          have h3 := (h.block _ (Array.getElem?_eq_some_iff.1 HC3.out).1).trans HC3.out
          match k, hk with
          | 0, _ => exact ⟨A, cell_block h3 0, by omega, by omega, Lib.hid (HMA.out A (by omega) (by omega))⟩
          | 1, _ => exact ⟨B, cell_block h3 1, by omega, by omega, Lib.hid (HMA.out B (by omega) (by omega))⟩
          | 2, _ => exact ⟨M, cell_block h3 2, by omega, by omega, Lib.hid (HMA.out M (by omega) (by omega))⟩)
        rw [hwl]
        clear hwl KL HC3 HMA hM m1 m2 hs3 hr3 HIN HNL HS1 c4 c5 HAB r1 r2
        go_loopw [57, 13, 8] (fun ii sx s8 wr => ∃ k : Nat, k ≤ 3 ∧ ii = .int .i64 k ∧ s8 = .bool false ∧ Hid (Fbox ⟨P, N, co, cn, cc, oo, on, oc, cs, os⟩ w wr b) ∧ Hid (Below wl.heap.size wl wr)) (fun ii _ _ _ => 3 - (intOf ii).toNat)
        case atStart => exact ⟨0, Nat.zero_le _, rfl, rfl, HBB, Lib.hid (Below.refl _ _)⟩
        case round =>
          obtain ⟨k, hk, rfl, rfl, HBB, HBW⟩ := hrel
          by_cases hk3 : k < 3
          · obtain ⟨x, cx, x1, x2, HM⟩ := HXS.out k hk3 _ HBW.out
            have CA : Hid (∀ W, Fv.At ⟨P, N, co, cn, cc, oo, on, oc, cs, os⟩ W → Calls Try.prog 13 #[.agg #[.int .i64 P, .int .i64 N, .slice co cn cc, .slice oo on oc], .int .i64 x] W fun e w' => e = .returned (.tuple #[.int .i64 i, .bool true]) ∧ Hid (Below W.heap.size W w')) := Lib.hid (fun W h => (HAT.out (by first | rfl | trivial) x W x1 x2 h).mono (by
              rintro e w' ⟨⟨j, k', rfl, hj⟩, q⟩
              obtain ⟨rfl, rfl⟩ := at_yes2 HRD.out.1 HRD.out.2.1 HLN.out HEX.out HM.out hj
              exact ⟨rfl, q⟩))
            have CF : Hid (∀ W, Fv.At ⟨P, N, co, cn, cc, oo, on, oc, cs, os⟩ W → Calls Try.prog 14 #[.agg #[.int .i64 P, .int .i64 N, .slice co cn cc, .slice oo on oc], .int .i64 x] W fun e w' => e = .returned (.tuple #[.int .i64 i, .bool true]) ∧ Hid (Below W.heap.size W w')) := Lib.hid (fun W h => (HFR.out (by first | rfl | trivial) x W x1 x2 h).mono (by
              rintro e w' ⟨⟨j, k', rfl, hj⟩, q⟩
              obtain ⟨rfl, rfl⟩ := from_yes2 HRD.out.1 HRD.out.2.1 HLN.out HEX.out HM.out hj
              exact ⟨rfl, q⟩))
            have CT : Hid (∀ W, Fv.At ⟨P, N, co, cn, cc, oo, on, oc, cs, os⟩ W → Calls Try.prog 15 #[.agg #[.int .i64 P, .int .i64 N, .slice co cn cc, .slice oo on oc], .int .i64 x] W fun e w' => e = .returned (.tuple #[.int .i64 i, .bool true]) ∧ Hid (Below W.heap.size W w')) := Lib.hid (fun W h => (HTI.out (by first | rfl | trivial) x W x1 x2 h).mono (by
              rintro e w' ⟨⟨j, k', rfl, hj⟩, q⟩
              obtain ⟨rfl, rfl⟩ := till_yes2 HRD.out.1 HRD.out.2.1 HLN.out HEX.out HM.out hj
              exact ⟨rfl, q⟩))
            have CIS : Hid (∀ W, Calls Try.prog 12 #[.int .i64 i, .bool true] W fun e w' => ∃ x y, e = .returned (.func (.func 28) #[] #[.pointer (some ⟨x, 0, none⟩), .pointer (some ⟨y, 0, none⟩)]) ∧ Hid (w'.cell? ⟨x, 0, none⟩ = some (.int .i64 i) ∧ w'.cell? ⟨y, 0, none⟩ = some (.bool true)) ∧ Hid (Below W.heap.size W w')) := Lib.hid (fun W => isClo_any i true W)
            have CIC : Hid (∀ x y W, W.cell? ⟨x, 0, none⟩ = some (.int .i64 i) → W.cell? ⟨y, 0, none⟩ = some (.bool true) → Calls Try.prog 28 #[.int .i64 i, .bool true, .pointer (some ⟨x, 0, none⟩), .pointer (some ⟨y, 0, none⟩)] W fun e w' => e = .returned (.bool true) ∧ w' = W) := Lib.hid (fun x y W h1 h2 => isC_any i true i true x y W h1 h2 true ⟨fun _ => ⟨rfl, rfl⟩, fun _ => rfl⟩)
            have i0 : (0 : Int) ≤ (k : Int) := by omega
            have i1 : (k : Int) < 3 := by omega
            clear HXS HM
            go_upto_region 9 with fail
            clear cx
            have HS : Hid (∀ W, Fbox ⟨P, N, co, cn, cc, oo, on, oc, cs, os⟩ w W b → Below wl.heap.size wl W → W.cell? ⟨b, 0, none⟩ = some (.int .i64 P) ∧ W.cell? ⟨b, 1, none⟩ = some (.int .i64 N) ∧ W.cell? ⟨b, 2, none⟩ = some (.slice co cn cc) ∧ W.cell? ⟨b, 3, none⟩ = some (.slice oo on oc) ∧ Hid (Fbox ⟨P, N, co, cn, cc, oo, on, oc, cs, os⟩ w W b ∧ Below wl.heap.size wl W)) := Lib.hid (fun W h k => ⟨h.c0, h.c1, h.c2, h.c3, Lib.hid ⟨h, k⟩⟩)
            refine wp_region_held_drew (S := (fun W => W.cell? ⟨b, 0, none⟩ = some (.int .i64 P) ∧ W.cell? ⟨b, 1, none⟩ = some (.int .i64 N) ∧ W.cell? ⟨b, 2, none⟩ = some (.slice co cn cc) ∧ W.cell? ⟨b, 3, none⟩ = some (.slice oo on oc) ∧ Hid (Fbox ⟨P, N, co, cn, cc, oo, on, oc, cs, os⟩ w W b ∧ Below wl.heap.size wl W))) (by kernel_rfl) ?_ (fun hHeld => ?_)
            · exact HS.out _ (HBB.out.keep (Below.refl _ _).drew) (HBW.out.trans ((Below.refl _ _).drew))
            refine wpAnyH_take (i := 0) (oi := _) (v := ?_) rfl (by kernel_rfl) (by kernel_rfl) (by kernel_rfl) (fun _ _ _ h => h) (Or.inl ⟨by kernel_rfl, ?_⟩) (by assumption) ?_
            rotate_left 1
            focus (intro wq hSw; (try dsimp only at hSw); obtain ⟨s0, s1, s2, s3, s4⟩ := hSw; go_simp; (try with_reducible rfl); done)
            try simp only [List.getElem_toArray, List.getElem_cons_zero, List.getElem_cons_succ, Act.put, List.setIfInBounds_toArray, List.set_cons_zero, List.set_cons_succ]
            refine wpAnyH_take (i := 2) (oi := _) (v := ?_) rfl (by kernel_rfl) (by kernel_rfl) (by kernel_rfl) (fun _ _ _ h => h) (Or.inl ⟨by kernel_rfl, ?_⟩) (by assumption) ?_
            rotate_left 1
            focus (intro wq hSw; (try dsimp only at hSw); obtain ⟨s0, s1, s2, s3, s4⟩ := hSw; go_simp; (try with_reducible rfl); done)
            try simp only [List.getElem_toArray, List.getElem_cons_zero, List.getElem_cons_succ, Act.put, List.setIfInBounds_toArray, List.set_cons_zero, List.set_cons_succ]
            refine wpAnyH_take (i := 3) (oi := _) (v := ?_) rfl (by kernel_rfl) (by kernel_rfl) (by kernel_rfl) (fun _ _ _ h => h) (Or.inl ⟨by kernel_rfl, ?_⟩) (by assumption) ?_
            rotate_left 1
            focus (intro wq hSw; (try dsimp only at hSw); obtain ⟨s0, s1, s2, s3, s4⟩ := hSw; go_simp; (try with_reducible rfl); done)
            try simp only [List.getElem_toArray, List.getElem_cons_zero, List.getElem_cons_succ, Act.put, List.setIfInBounds_toArray, List.set_cons_zero, List.set_cons_succ]
            refine wpAnyH_ready (rs := [1]) (by kernel_rfl) (by simp) ?_
            refine AllReadyH.cons (o := _) rfl (fun K hK => ?_) AllReadyH.nil
            rw [if_pos (by kernel_rfl)]
            go_simp
            (go_at_call 12; (with_reducible refine (CIS.out _).mono ?_); rintro e z1 ⟨x, y, rfl, HXY, q⟩; have q := q.out)
            first | refine hK.out _ _ ?_ (fun hHeld => ?_) | (go_wp2_with fail; refine hK.out _ _ ?_ (fun hHeld => ?_))
            · exact HS.out _ (hHeld.2.2.2.2.out.1.keep q) (hHeld.2.2.2.2.out.2.trans (q.mono hHeld.2.2.2.2.out.2.size))
            clear hK K
            try simp only [List.getElem_toArray, List.getElem_cons_zero, List.getElem_cons_succ, Act.put, List.setIfInBounds_toArray, List.set_cons_zero, List.set_cons_succ]
            refine wpAnyH_ready (rs := [4]) (by kernel_rfl) (by simp) ?_
            refine AllReadyH.cons (o := _) rfl (fun K hK => ?_) AllReadyH.nil
            rw [if_pos (by kernel_rfl)]
            go_simp
            (go_at_call 13; (with_reducible refine (CA.out _ hHeld.2.2.2.2.out.1.at_).mono ?_); rintro e z2 ⟨rfl, q⟩; have q := q.out; have HXY := Lib.hid (⟨cell_keep HXY.out.1 q, cell_keep HXY.out.2 q⟩ : _ ∧ _))
            first | refine hK.out _ _ ?_ (fun hHeld => ?_) | (go_wp2_with fail; refine hK.out _ _ ?_ (fun hHeld => ?_))
            · exact HS.out _ (hHeld.2.2.2.2.out.1.keep q) (hHeld.2.2.2.2.out.2.trans (q.mono hHeld.2.2.2.2.out.2.size))
            clear hK K
            try simp only [List.getElem_toArray, List.getElem_cons_zero, List.getElem_cons_succ, Act.put, List.setIfInBounds_toArray, List.set_cons_zero, List.set_cons_succ]
            refine wpAnyH_take (i := 5) (oi := _) (v := ?_) rfl (by kernel_rfl) (by kernel_rfl) (by kernel_rfl) (fun _ _ _ h => h) (Or.inl ⟨by kernel_rfl, ?_⟩) (by assumption) ?_
            rotate_left 1
            focus (intro wq hSw; (try dsimp only at hSw); obtain ⟨s0, s1, s2, s3, s4⟩ := hSw; go_simp; (try with_reducible rfl); done)
            try simp only [List.getElem_toArray, List.getElem_cons_zero, List.getElem_cons_succ, Act.put, List.setIfInBounds_toArray, List.set_cons_zero, List.set_cons_succ]
            refine wpAnyH_take (i := 6) (oi := _) (v := ?_) rfl (by kernel_rfl) (by kernel_rfl) (by kernel_rfl) (fun _ _ _ h => h) (Or.inl ⟨by kernel_rfl, ?_⟩) (by assumption) ?_
            rotate_left 1
            focus (intro wq hSw; (try dsimp only at hSw); obtain ⟨s0, s1, s2, s3, s4⟩ := hSw; go_simp; (try with_reducible rfl); done)
            try simp only [List.getElem_toArray, List.getElem_cons_zero, List.getElem_cons_succ, Act.put, List.setIfInBounds_toArray, List.set_cons_zero, List.set_cons_succ]
            refine wpAnyH_ready (rs := [7]) (by kernel_rfl) (by simp) ?_
            refine AllReadyH.cons (o := _) rfl (fun K hK => ?_) AllReadyH.nil
            rw [if_pos (by kernel_rfl)]
            go_simp
            (go_at_call 28; (with_reducible refine (CIC.out x y _ HXY.out.1 HXY.out.2).mono ?_); rintro e zz ⟨rfl, hzz⟩; subst hzz; have q := Below.refl zz.heap.size zz; clear HXY)
            first | refine hK.out _ _ ?_ (fun hHeld => ?_) | (go_wp2_with fail; refine hK.out _ _ ?_ (fun hHeld => ?_))
            · exact HS.out _ (hHeld.2.2.2.2.out.1.keep q) (hHeld.2.2.2.2.out.2.trans (q.mono hHeld.2.2.2.2.out.2.size))
            clear hK K
            try simp only [List.getElem_toArray, List.getElem_cons_zero, List.getElem_cons_succ, Act.put, List.setIfInBounds_toArray, List.set_cons_zero, List.set_cons_succ]
            refine wpAnyH_take (i := 8) (oi := _) (v := ?_) rfl (by kernel_rfl) (by kernel_rfl) (by kernel_rfl) (fun _ _ _ h => h) (Or.inl ⟨by kernel_rfl, ?_⟩) (by assumption) ?_
            rotate_left 1
            focus (intro wq hSw; (try dsimp only at hSw); obtain ⟨s0, s1, s2, s3, s4⟩ := hSw; go_simp; (try with_reducible rfl); done)
            try simp only [List.getElem_toArray, List.getElem_cons_zero, List.getElem_cons_succ, Act.put, List.setIfInBounds_toArray, List.set_cons_zero, List.set_cons_succ]
            refine wpAnyH_take (i := 9) (oi := _) (v := ?_) rfl (by kernel_rfl) (by kernel_rfl) (by kernel_rfl) (fun _ _ _ h => h) (Or.inl ⟨by kernel_rfl, ?_⟩) (by assumption) ?_
            rotate_left 1
            focus (intro wq hSw; (try dsimp only at hSw); obtain ⟨s0, s1, s2, s3, s4⟩ := hSw; go_simp; (try with_reducible rfl); done)
            try simp only [List.getElem_toArray, List.getElem_cons_zero, List.getElem_cons_succ, Act.put, List.setIfInBounds_toArray, List.set_cons_zero, List.set_cons_succ]
            refine wpAnyH_take (i := 10) (oi := _) (v := ?_) rfl (by kernel_rfl) (by kernel_rfl) (by kernel_rfl) (fun _ _ _ h => h) (Or.inl ⟨by kernel_rfl, ?_⟩) (by assumption) ?_
            rotate_left 1
            focus (intro wq hSw; (try dsimp only at hSw); obtain ⟨s0, s1, s2, s3, s4⟩ := hSw; go_simp; (try with_reducible rfl); done)
            try simp only [List.getElem_toArray, List.getElem_cons_zero, List.getElem_cons_succ, Act.put, List.setIfInBounds_toArray, List.set_cons_zero, List.set_cons_succ]
            refine wpAnyH_take (i := 12) (oi := _) (v := ?_) rfl (by kernel_rfl) (by kernel_rfl) (by kernel_rfl) (fun _ _ _ h => h) (Or.inl ⟨by kernel_rfl, ?_⟩) (by assumption) ?_
            rotate_left 1
            focus (intro wq hSw; (try dsimp only at hSw); obtain ⟨s0, s1, s2, s3, s4⟩ := hSw; go_simp; (try with_reducible rfl); done)
            try simp only [List.getElem_toArray, List.getElem_cons_zero, List.getElem_cons_succ, Act.put, List.setIfInBounds_toArray, List.set_cons_zero, List.set_cons_succ]
            refine wpAnyH_take (i := 13) (oi := _) (v := ?_) rfl (by kernel_rfl) (by kernel_rfl) (by kernel_rfl) (fun _ _ _ h => h) (Or.inl ⟨by kernel_rfl, ?_⟩) (by assumption) ?_
            rotate_left 1
            focus (intro wq hSw; (try dsimp only at hSw); obtain ⟨s0, s1, s2, s3, s4⟩ := hSw; go_simp; (try with_reducible rfl); done)
            try simp only [List.getElem_toArray, List.getElem_cons_zero, List.getElem_cons_succ, Act.put, List.setIfInBounds_toArray, List.set_cons_zero, List.set_cons_succ]
            refine wpAnyH_ready (rs := [11]) (by kernel_rfl) (by simp) ?_
            refine AllReadyH.cons (o := _) rfl (fun K hK => ?_) AllReadyH.nil
            rw [if_pos (by kernel_rfl)]
            go_simp
            (go_at_call 12; (with_reducible refine (CIS.out _).mono ?_); rintro e z3 ⟨x, y, rfl, HXY, q⟩; have q := q.out)
            first | refine hK.out _ _ ?_ (fun hHeld => ?_) | (go_wp2_with fail; refine hK.out _ _ ?_ (fun hHeld => ?_))
            · exact HS.out _ (hHeld.2.2.2.2.out.1.keep q) (hHeld.2.2.2.2.out.2.trans (q.mono hHeld.2.2.2.2.out.2.size))
            clear hK K
            try simp only [List.getElem_toArray, List.getElem_cons_zero, List.getElem_cons_succ, Act.put, List.setIfInBounds_toArray, List.set_cons_zero, List.set_cons_succ]
            refine wpAnyH_ready (rs := [14]) (by kernel_rfl) (by simp) ?_
            refine AllReadyH.cons (o := _) rfl (fun K hK => ?_) AllReadyH.nil
            rw [if_pos (by kernel_rfl)]
            go_simp
            (go_at_call 14; (with_reducible refine (CF.out _ hHeld.2.2.2.2.out.1.at_).mono ?_); rintro e z4 ⟨rfl, q⟩; have q := q.out; have HXY := Lib.hid (⟨cell_keep HXY.out.1 q, cell_keep HXY.out.2 q⟩ : _ ∧ _))
            first | refine hK.out _ _ ?_ (fun hHeld => ?_) | (go_wp2_with fail; refine hK.out _ _ ?_ (fun hHeld => ?_))
            · exact HS.out _ (hHeld.2.2.2.2.out.1.keep q) (hHeld.2.2.2.2.out.2.trans (q.mono hHeld.2.2.2.2.out.2.size))
            clear hK K
            try simp only [List.getElem_toArray, List.getElem_cons_zero, List.getElem_cons_succ, Act.put, List.setIfInBounds_toArray, List.set_cons_zero, List.set_cons_succ]
            refine wpAnyH_take (i := 15) (oi := _) (v := ?_) rfl (by kernel_rfl) (by kernel_rfl) (by kernel_rfl) (fun _ _ _ h => h) (Or.inl ⟨by kernel_rfl, ?_⟩) (by assumption) ?_
            rotate_left 1
            focus (intro wq hSw; (try dsimp only at hSw); obtain ⟨s0, s1, s2, s3, s4⟩ := hSw; go_simp; (try with_reducible rfl); done)
            try simp only [List.getElem_toArray, List.getElem_cons_zero, List.getElem_cons_succ, Act.put, List.setIfInBounds_toArray, List.set_cons_zero, List.set_cons_succ]
            refine wpAnyH_take (i := 16) (oi := _) (v := ?_) rfl (by kernel_rfl) (by kernel_rfl) (by kernel_rfl) (fun _ _ _ h => h) (Or.inl ⟨by kernel_rfl, ?_⟩) (by assumption) ?_
            rotate_left 1
            focus (intro wq hSw; (try dsimp only at hSw); obtain ⟨s0, s1, s2, s3, s4⟩ := hSw; go_simp; (try with_reducible rfl); done)
            try simp only [List.getElem_toArray, List.getElem_cons_zero, List.getElem_cons_succ, Act.put, List.setIfInBounds_toArray, List.set_cons_zero, List.set_cons_succ]
            refine wpAnyH_ready (rs := [17]) (by kernel_rfl) (by simp) ?_
            refine AllReadyH.cons (o := _) rfl (fun K hK => ?_) AllReadyH.nil
            rw [if_pos (by kernel_rfl)]
            go_simp
            (go_at_call 28; (with_reducible refine (CIC.out x y _ HXY.out.1 HXY.out.2).mono ?_); rintro e zz ⟨rfl, hzz⟩; subst hzz; have q := Below.refl zz.heap.size zz; clear HXY)
            first | refine hK.out _ _ ?_ (fun hHeld => ?_) | (go_wp2_with fail; refine hK.out _ _ ?_ (fun hHeld => ?_))
            · exact HS.out _ (hHeld.2.2.2.2.out.1.keep q) (hHeld.2.2.2.2.out.2.trans (q.mono hHeld.2.2.2.2.out.2.size))
            clear hK K
            try simp only [List.getElem_toArray, List.getElem_cons_zero, List.getElem_cons_succ, Act.put, List.setIfInBounds_toArray, List.set_cons_zero, List.set_cons_succ]
            refine wpAnyH_take (i := 18) (oi := _) (v := ?_) rfl (by kernel_rfl) (by kernel_rfl) (by kernel_rfl) (fun _ _ _ h => h) (Or.inl ⟨by kernel_rfl, ?_⟩) (by assumption) ?_
            rotate_left 1
            focus (intro wq hSw; (try dsimp only at hSw); obtain ⟨s0, s1, s2, s3, s4⟩ := hSw; go_simp; (try with_reducible rfl); done)
            try simp only [List.getElem_toArray, List.getElem_cons_zero, List.getElem_cons_succ, Act.put, List.setIfInBounds_toArray, List.set_cons_zero, List.set_cons_succ]
            refine wpAnyH_take (i := 19) (oi := _) (v := ?_) rfl (by kernel_rfl) (by kernel_rfl) (by kernel_rfl) (fun _ _ _ h => h) (Or.inl ⟨by kernel_rfl, ?_⟩) (by assumption) ?_
            rotate_left 1
            focus (intro wq hSw; (try dsimp only at hSw); obtain ⟨s0, s1, s2, s3, s4⟩ := hSw; go_simp; (try with_reducible rfl); done)
            try simp only [List.getElem_toArray, List.getElem_cons_zero, List.getElem_cons_succ, Act.put, List.setIfInBounds_toArray, List.set_cons_zero, List.set_cons_succ]
            refine wpAnyH_take (i := 20) (oi := _) (v := ?_) rfl (by kernel_rfl) (by kernel_rfl) (by kernel_rfl) (fun _ _ _ h => h) (Or.inl ⟨by kernel_rfl, ?_⟩) (by assumption) ?_
            rotate_left 1
            focus (intro wq hSw; (try dsimp only at hSw); obtain ⟨s0, s1, s2, s3, s4⟩ := hSw; go_simp; (try with_reducible rfl); done)
            try simp only [List.getElem_toArray, List.getElem_cons_zero, List.getElem_cons_succ, Act.put, List.setIfInBounds_toArray, List.set_cons_zero, List.set_cons_succ]
            refine wpAnyH_take (i := 21) (oi := _) (v := ?_) rfl (by kernel_rfl) (by kernel_rfl) (by kernel_rfl) (fun _ _ _ h => h) (Or.inl ⟨by kernel_rfl, ?_⟩) (by assumption) ?_
            rotate_left 1
            focus (intro wq hSw; (try dsimp only at hSw); obtain ⟨s0, s1, s2, s3, s4⟩ := hSw; go_simp; (try with_reducible rfl); done)
            try simp only [List.getElem_toArray, List.getElem_cons_zero, List.getElem_cons_succ, Act.put, List.setIfInBounds_toArray, List.set_cons_zero, List.set_cons_succ]
            refine wpAnyH_take (i := 23) (oi := _) (v := ?_) rfl (by kernel_rfl) (by kernel_rfl) (by kernel_rfl) (fun _ _ _ h => h) (Or.inl ⟨by kernel_rfl, ?_⟩) (by assumption) ?_
            rotate_left 1
            focus (intro wq hSw; (try dsimp only at hSw); obtain ⟨s0, s1, s2, s3, s4⟩ := hSw; go_simp; (try with_reducible rfl); done)
            try simp only [List.getElem_toArray, List.getElem_cons_zero, List.getElem_cons_succ, Act.put, List.setIfInBounds_toArray, List.set_cons_zero, List.set_cons_succ]
            refine wpAnyH_take (i := 24) (oi := _) (v := ?_) rfl (by kernel_rfl) (by kernel_rfl) (by kernel_rfl) (fun _ _ _ h => h) (Or.inl ⟨by kernel_rfl, ?_⟩) (by assumption) ?_
            rotate_left 1
            focus (intro wq hSw; (try dsimp only at hSw); obtain ⟨s0, s1, s2, s3, s4⟩ := hSw; go_simp; (try with_reducible rfl); done)
            try simp only [List.getElem_toArray, List.getElem_cons_zero, List.getElem_cons_succ, Act.put, List.setIfInBounds_toArray, List.set_cons_zero, List.set_cons_succ]
            refine wpAnyH_ready (rs := [22]) (by kernel_rfl) (by simp) ?_
            refine AllReadyH.cons (o := _) rfl (fun K hK => ?_) AllReadyH.nil
            rw [if_pos (by kernel_rfl)]
            go_simp
            (go_at_call 12; (with_reducible refine (CIS.out _).mono ?_); rintro e z5 ⟨x, y, rfl, HXY, q⟩; have q := q.out)
            first | refine hK.out _ _ ?_ (fun hHeld => ?_) | (go_wp2_with fail; refine hK.out _ _ ?_ (fun hHeld => ?_))
            · exact HS.out _ (hHeld.2.2.2.2.out.1.keep q) (hHeld.2.2.2.2.out.2.trans (q.mono hHeld.2.2.2.2.out.2.size))
            clear hK K
            try simp only [List.getElem_toArray, List.getElem_cons_zero, List.getElem_cons_succ, Act.put, List.setIfInBounds_toArray, List.set_cons_zero, List.set_cons_succ]
            refine wpAnyH_ready (rs := [25]) (by kernel_rfl) (by simp) ?_
            refine AllReadyH.cons (o := _) rfl (fun K hK => ?_) AllReadyH.nil
            rw [if_pos (by kernel_rfl)]
            go_simp
            (go_at_call 15; (with_reducible refine (CT.out _ hHeld.2.2.2.2.out.1.at_).mono ?_); rintro e z6 ⟨rfl, q⟩; have q := q.out; have HXY := Lib.hid (⟨cell_keep HXY.out.1 q, cell_keep HXY.out.2 q⟩ : _ ∧ _))
            first | refine hK.out _ _ ?_ (fun hHeld => ?_) | (go_wp2_with fail; refine hK.out _ _ ?_ (fun hHeld => ?_))
            · exact HS.out _ (hHeld.2.2.2.2.out.1.keep q) (hHeld.2.2.2.2.out.2.trans (q.mono hHeld.2.2.2.2.out.2.size))
            clear hK K
            try simp only [List.getElem_toArray, List.getElem_cons_zero, List.getElem_cons_succ, Act.put, List.setIfInBounds_toArray, List.set_cons_zero, List.set_cons_succ]
            refine wpAnyH_take (i := 26) (oi := _) (v := ?_) rfl (by kernel_rfl) (by kernel_rfl) (by kernel_rfl) (fun _ _ _ h => h) (Or.inl ⟨by kernel_rfl, ?_⟩) (by assumption) ?_
            rotate_left 1
            focus (intro wq hSw; (try dsimp only at hSw); obtain ⟨s0, s1, s2, s3, s4⟩ := hSw; go_simp; (try with_reducible rfl); done)
            try simp only [List.getElem_toArray, List.getElem_cons_zero, List.getElem_cons_succ, Act.put, List.setIfInBounds_toArray, List.set_cons_zero, List.set_cons_succ]
            refine wpAnyH_take (i := 27) (oi := _) (v := ?_) rfl (by kernel_rfl) (by kernel_rfl) (by kernel_rfl) (fun _ _ _ h => h) (Or.inl ⟨by kernel_rfl, ?_⟩) (by assumption) ?_
            rotate_left 1
            focus (intro wq hSw; (try dsimp only at hSw); obtain ⟨s0, s1, s2, s3, s4⟩ := hSw; go_simp; (try with_reducible rfl); done)
            try simp only [List.getElem_toArray, List.getElem_cons_zero, List.getElem_cons_succ, Act.put, List.setIfInBounds_toArray, List.set_cons_zero, List.set_cons_succ]
            refine wpAnyH_ready (rs := [28]) (by kernel_rfl) (by simp) ?_
            refine AllReadyH.cons (o := _) rfl (fun K hK => ?_) AllReadyH.nil
            rw [if_pos (by kernel_rfl)]
            go_simp
            (go_at_call 28; (with_reducible refine (CIC.out x y _ HXY.out.1 HXY.out.2).mono ?_); rintro e zz ⟨rfl, hzz⟩; subst hzz; have q := Below.refl zz.heap.size zz; clear HXY)
            first | refine hK.out _ _ ?_ (fun hHeld => ?_) | (go_wp2_with fail; refine hK.out _ _ ?_ (fun hHeld => ?_))
            · exact HS.out _ (hHeld.2.2.2.2.out.1.keep q) (hHeld.2.2.2.2.out.2.trans (q.mono hHeld.2.2.2.2.out.2.size))
            clear hK K
            try simp only [List.getElem_toArray, List.getElem_cons_zero, List.getElem_cons_succ, Act.put, List.setIfInBounds_toArray, List.set_cons_zero, List.set_cons_succ]
            refine wpAnyH_take (i := 29) (oi := _) (v := ?_) rfl (by kernel_rfl) (by kernel_rfl) (by kernel_rfl) (fun _ _ _ h => h) (Or.inl ⟨by kernel_rfl, ?_⟩) (by assumption) ?_
            rotate_left 1
            focus (intro wq hSw; (try dsimp only at hSw); obtain ⟨s0, s1, s2, s3, s4⟩ := hSw; go_simp; (try with_reducible rfl); done)
            try simp only [List.getElem_toArray, List.getElem_cons_zero, List.getElem_cons_succ, Act.put, List.setIfInBounds_toArray, List.set_cons_zero, List.set_cons_succ]
            refine wpAnyH_take (i := 30) (oi := _) (v := ?_) rfl (by kernel_rfl) (by kernel_rfl) (by kernel_rfl) (fun _ _ _ h => h) (Or.inl ⟨by kernel_rfl, ?_⟩) (by assumption) ?_
            rotate_left 1
            focus (intro wq hSw; (try dsimp only at hSw); obtain ⟨s0, s1, s2, s3, s4⟩ := hSw; go_simp; (try with_reducible rfl); done)
            try simp only [List.getElem_toArray, List.getElem_cons_zero, List.getElem_cons_succ, Act.put, List.setIfInBounds_toArray, List.set_cons_zero, List.set_cons_succ]
            refine wpAnyH_done (by kernel_rfl) ?_ _
            have HBB := Lib.hid hHeld.2.2.2.2.out.1
            have HBW := Lib.hid hHeld.2.2.2.2.out.2
            clear hHeld
            go_wp2
            refine ⟨⟨k + 1, by omega, by simp, rfl, Lib.hid (HBB.out), Lib.hid HBW.out⟩, ?_⟩
            show 3 - ((k : Int) + 1).toNat < 3 - ((k : Int)).toNat
            omega
          · have hk4 : k = 3 := by omega
            subst hk4
            go_wp2
            go_meet
            case rel => exact Lib.hid HBB.out
    case rest =>
      have HBB := Lib.hid hcut.out
      clear hcut HTB HR1 HS1
      have e0 : wc.cell? ⟨b, 0, none⟩ = some (.int .i64 P) := HBB.out.c0
      have e1 : wc.cell? ⟨b, 1, none⟩ = some (.int .i64 N) := HBB.out.c1
      have e2 : wc.cell? ⟨b, 2, none⟩ = some (.slice co cn cc) := HBB.out.c2
      have e3 : wc.cell? ⟨b, 3, none⟩ = some (.slice oo on oc) := HBB.out.c3
      go_wp2_with fail
      (with_reducible refine (HAT.out (by first | rfl | trivial) (t) _ ht1 ht2 HBB.out.at_).mono ?_)
      rintro e w5 ⟨⟨j, k5, rfl, h5⟩, q⟩
      have HBB := Lib.hid (HBB.out.keep q.out)
      have Hh5 := Lib.hid h5
      clear q h5 e0 e1 e2 e3
      cases k5
      · obtain rfl : j = 0 := (Hh5.out.2 rfl).1
        go_wp2_with fail
        (with_reducible refine (HAW.out _).mono ?_)
        rintro e w9 ⟨rfl, q⟩
        have HBB := Lib.hid (HBB.out.keep q)
        clear q
        go_wp2
        go_returns
        exact ⟨rfl, HBB.out.bw⟩
      · have HE5 := Lib.hid (Hh5.out.1 rfl)
        have e0 : w5.cell? ⟨b, 0, none⟩ = some (.int .i64 P) := HBB.out.c0
        have e1 : w5.cell? ⟨b, 1, none⟩ = some (.int .i64 N) := HBB.out.c1
        have e2 : w5.cell? ⟨b, 2, none⟩ = some (.slice co cn cc) := HBB.out.c2
        have e3 : w5.cell? ⟨b, 3, none⟩ = some (.slice oo on oc) := HBB.out.c3
        go_wp2_with fail
        (with_reducible refine (HGE.out (by first | rfl | trivial) j _ HBB.out.at_).mono ?_)
        rintro e w6 ⟨a6, n6, c6, L6, k6, rfl, q, HS6, HR6⟩
        have HBB := Lib.hid (HBB.out.keep q.out)
        clear q e0 e1 e2 e3
        obtain ⟨rfl, HT6⟩ : k6 = 0 ∧ Hid (L6 = gr ⟨P, N, co, cn, cc, oo, on, oc, cs, os⟩ j) := by
          rcases HR6 with ⟨e, h⟩ | ⟨_, _, h⟩
          · exact ⟨e, Lib.hid h.out.2⟩
          · exact absurd ⟨HE5.out.1.1, HE5.out.1.2.1⟩ h.out
        have z6 := HT6.out
        subst z6
        have HH := Lib.hid (has_any a6 n6 c6 (gr ⟨P, N, co, cn, cc, oo, on, oc, cs, os⟩ j) t w6 HS6.out (gr_good' HRD.out.2.1 HE5.out.1) (by rw [← HS6.out.len]; exact Nat.le_trans (gr_len HRD.out.2.1 j) (by decide)) true ⟨fun _ => HE5.out.2, fun _ => rfl⟩)
        clear HR6 HS6 HT6
        go_wp2_with fail
        (with_reducible refine HH.out.mono ?_)
        rintro e w7 ⟨rfl, q⟩
        have HBB := Lib.hid (HBB.out.keep q)
        clear q HH
        go_wp2_with fail
        (with_reducible refine (HAW.out _).mono ?_)
        rintro e w9 ⟨rfl, q⟩
        have HBB := Lib.hid (HBB.out.keep q)
        clear q
        go_wp2
        go_returns
        exact ⟨rfl, HBB.out.bw⟩
end Go.Proofs.Ytjhbgedobkpdhaa
