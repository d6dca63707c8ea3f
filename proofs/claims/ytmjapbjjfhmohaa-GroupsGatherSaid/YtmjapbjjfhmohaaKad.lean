/- Q2 in one. -/
import Derived.Test.YtmjapbjjfhmohaaKab
namespace Go.Proofs.Ytmjapbjjfhmohaa
set_option linter.unusedVariables false
set_option linter.unusedSimpArgs false
open Go.ChangeShapes Go.WideShapes Go.ChangeAt Go.RowKit Go.Shelf

/-- What is left to look for. -/
def sbMs (n : Int) (v : Value) : Value → Nat
  | .bool true => (n + 1 - intOf v).toNat
  | _ => 0
theorem subset_bad (F : Fv) (m n : Int) (w : World) (hF : F.At w) (hm1 : -9223372036854775808 ≤ m) (hm2 : m ≤ 9223372036854775807) (hn1 : -9223372036854775808 ≤ n) (hn2 : n ≤ 9223372036854775807) (h : ¬ (InR m ∧ InR n ∧ m ≤ n)) : Calls Try.prog 20 #[F.v, .int .i64 m, .int .i64 n] w fun e w' => e = .returned (.tuple #[.agg #[.int .i64 0, .int .i64 0, .slice none 0 0, .slice none 0 0], .int .i64 2]) ∧ Hid (Below w.heap.size w w') := by
  obtain ⟨P, N, co, cn, cc, oo, on, oc, cs, os⟩ := F
  clear hF
  obtain ⟨ri, hri⟩ : ∃ r : Bool, r = true ↔ InR m := by classical exact ⟨decide _, decide_eq_true_iff⟩
  obtain ⟨rj, hrj⟩ : ∃ r : Bool, r = true ↔ InR n := by classical exact ⟨decide _, decide_eq_true_iff⟩
  have CI := Lib.hid (fun W => inr_any m W ri hri)
  have CJ := Lib.hid (fun W => inr_any n W rj hrj)
  have HB : Hid (¬ (ri = true ∧ rj = true ∧ m ≤ n)) := Lib.hid (fun z => h ⟨hri.1 z.1, hrj.1 z.2.1, z.2.2⟩)
  clear hri hrj h
  obtain ⟨b, hb⟩ : ∃ b, w.heap.size = b := ⟨_, rfl⟩
  obtain ⟨r, hr'⟩ : ∃ z, b + 1 = z := ⟨_, rfl⟩
  obtain ⟨wb, hwb⟩ : ∃ z, ((w.alloc (.cells #[.int .i64 P, .int .i64 N, .slice co cn cc, .slice oo on oc] 25)).alloc (.cells #[.int .i64 0, .int .i64 0, .slice none 0 0, .slice none 0 0] 25)) = z := ⟨_, rfl⟩
  have KB : Hid (Below w.heap.size w wb) := Lib.hid (by rw [← hwb]; exact ((Below.refl _ w).alloc (Nat.le_refl _) _).alloc (by simp) _)
  have B0 : Hid (wb.heap[b]? = some (.cells #[.int .i64 P, .int .i64 N, .slice co cn cc, .slice oo on oc] 25 (0, 0))) := Lib.hid (by rw [← hwb]; exact (Below.heap_alloc _ _ _ (by simp; omega)).trans (heap_at hb))
  have B1 : Hid (wb.heap[r]? = some (.cells #[.int .i64 0, .int .i64 0, .slice none 0 0, .slice none 0 0] 25 (0, 0))) := Lib.hid (by rw [← hwb]; exact heap_at (by simp; omega))
  have HRD : Hid (w.heap.size ≤ b ∧ b < r) := Lib.hid (by omega)
  have HX := Lib.hid hwb
  have HX0 := Lib.hid hb
  have HX1 := Lib.hid hr'
  clear hwb hb hr'
  show Calls Try.prog 20 #[.agg #[.int .i64 P, .int .i64 N, .slice co cn cc, .slice oo on oc], .int .i64 m, .int .i64 n] w _
  go_enter Try.func20, Try.ntmps20
  go_upto_region 1 with fail
  try rw [HX.out]
  try rw [HX0.out]
  try rw [HX1.out]
  clear HX HX0 HX1
  have r0 := cell_block B1.out 0
  have r1 := cell_block B1.out 1
  have r2 := cell_block B1.out 2
  have r3 := cell_block B1.out 3
  have f0 := free_blk B1.out 0
  have f1 := free_blk B1.out 1
  have f2 := free_blk B1.out 2
  have f3 := free_blk B1.out 3
  cases ri
  · go_wp2_with fail
    (with_reducible refine (CI.out _).mono ?_)
    rintro e w1 ⟨rfl, rfl⟩
    go_wp2_with fail
    have RP := Lib.hid (res_put4 B1.out KB.out (by have := HRD.out; omega) (.int .i64 0) (.int .i64 0) (.slice none 0 0) (.slice none 0 0))
    obtain ⟨we, hwe⟩ : ∃ we, (((wb.setCell ⟨r, 0, none⟩ (.int .i64 0)).setCell ⟨r, 1, none⟩ (.int .i64 0)).setCell ⟨r, 2, none⟩ (.slice none 0 0)).setCell ⟨r, 3, none⟩ (.slice none 0 0) = we := ⟨_, rfl⟩
    rw [hwe] at RP ⊢
    clear r0 r1 r2 r3 f0 f1 f2 f3 hwe
    have r0 := cell_block RP.out.1 0
    have r1 := cell_block RP.out.1 1
    have r2 := cell_block RP.out.1 2
    have r3 := cell_block RP.out.1 3
    exact bodyPost_ret (v := .tuple #[.agg #[(.int .i64 0), (.int .i64 0), (.slice none 0 0), (.slice none 0 0)], .int .i64 2]) (by simp [results, Try.results20, go_sem, r0, r1, r2, r3]) rfl (⟨rfl, Lib.hid RP.out.2.1⟩)
  · cases rj
    · go_wp2_with fail
      (with_reducible refine (CI.out _).mono ?_)
      rintro e w1 ⟨rfl, rfl⟩
      go_wp2_with fail
      (with_reducible refine (CJ.out _).mono ?_)
      rintro e w1 ⟨rfl, rfl⟩
      go_wp2_with fail
      have RP := Lib.hid (res_put4 B1.out KB.out (by have := HRD.out; omega) (.int .i64 0) (.int .i64 0) (.slice none 0 0) (.slice none 0 0))
      obtain ⟨we, hwe⟩ : ∃ we, (((wb.setCell ⟨r, 0, none⟩ (.int .i64 0)).setCell ⟨r, 1, none⟩ (.int .i64 0)).setCell ⟨r, 2, none⟩ (.slice none 0 0)).setCell ⟨r, 3, none⟩ (.slice none 0 0) = we := ⟨_, rfl⟩
      rw [hwe] at RP ⊢
      clear r0 r1 r2 r3 f0 f1 f2 f3 hwe
      have r0 := cell_block RP.out.1 0
      have r1 := cell_block RP.out.1 1
      have r2 := cell_block RP.out.1 2
      have r3 := cell_block RP.out.1 3
      exact bodyPost_ret (v := .tuple #[.agg #[(.int .i64 0), (.int .i64 0), (.slice none 0 0), (.slice none 0 0)], .int .i64 2]) (by simp [results, Try.results20, go_sem, r0, r1, r2, r3]) rfl (⟨rfl, Lib.hid RP.out.2.1⟩)
    · have lt : n < m := by have := HB.out; simp at this; omega
      go_wp2_with fail
      (with_reducible refine (CI.out _).mono ?_)
      rintro e w1 ⟨rfl, rfl⟩
      go_wp2_with fail
      (with_reducible refine (CJ.out _).mono ?_)
      rintro e w1 ⟨rfl, rfl⟩
      go_wp2_with fail
      have RP := Lib.hid (res_put4 B1.out KB.out (by have := HRD.out; omega) (.int .i64 0) (.int .i64 0) (.slice none 0 0) (.slice none 0 0))
      obtain ⟨we, hwe⟩ : ∃ we, (((wb.setCell ⟨r, 0, none⟩ (.int .i64 0)).setCell ⟨r, 1, none⟩ (.int .i64 0)).setCell ⟨r, 2, none⟩ (.slice none 0 0)).setCell ⟨r, 3, none⟩ (.slice none 0 0) = we := ⟨_, rfl⟩
      rw [hwe] at RP ⊢
      clear r0 r1 r2 r3 f0 f1 f2 f3 hwe
      have r0 := cell_block RP.out.1 0
      have r1 := cell_block RP.out.1 1
      have r2 := cell_block RP.out.1 2
      have r3 := cell_block RP.out.1 3
      exact bodyPost_ret (v := .tuple #[.agg #[(.int .i64 0), (.int .i64 0), (.slice none 0 0), (.slice none 0 0)], .int .i64 2]) (by simp [results, Try.results20, go_sem, r0, r1, r2, r3]) rfl (⟨rfl, Lib.hid RP.out.2.1⟩)

set_option maxRecDepth 100000 in
set_option maxHeartbeats 8000000 in
theorem subset_any (F : Fv) (m n : Int) (L : List Int) (w : World) (hF : F.At w) (rt : F.Rt) (hmid : F.Mid) (hs : ∀ l ∈ F.cs, l.length ≤ 1000) (hso : ∀ o ∈ F.os, o.2.length ≤ 1000) (im : InR m) (jn : InR n) (mn : m ≤ n) (hL : SbL F m n L) :
    Calls Try.prog 20 #[F.v, .int .i64 m, .int .i64 n] w fun e w' => SbOut F L w.heap.size e w' ∧ Hid (Below w.heap.size w w') := by
  have ok := rt.okm hmid
  have CI := Lib.hid (fun W => inr_any m W true ⟨fun _ => im, fun _ => rfl⟩)
  have CJ := Lib.hid (fun W => inr_any n W true ⟨fun _ => jn, fun _ => rfl⟩)
  have CR := Lib.hid (fun W (h : F.At W) => right_mid F W h hmid true ⟨fun _ => rt, fun _ => rfl⟩)
  have CT := Lib.hid (fun W (j : Int) bf (h : F.At W) hb => tell47_any F j bf W h ok hb)
  have CB := Lib.hid (fun i W (h : F.At W) hi => behind_low F i W h ok hi)
  have HGL : Hid (∀ j, (gr F j).length ≤ 1000) := Lib.hid (gr_lens hs hso)
  have HSL := Lib.hid hL
  have HIM := Lib.hid im
  have HJN := Lib.hid jn
  have im1 := im.1
  have im2 := im.2
  have jn1 := jn.1
  have jn2 := jn.2
  obtain ⟨P, N, co, cn, cc, oo, on, oc, cs, os⟩ := F
  have HF : Hid (Fv.At ⟨P, N, co, cn, cc, oo, on, oc, cs, os⟩ w) := Lib.hid hF
  have CR : Hid (∀ W, Fv.At ⟨P, N, co, cn, cc, oo, on, oc, cs, os⟩ W → Calls Try.prog 18 #[.agg #[.int .i64 P, .int .i64 N, .slice co cn cc, .slice oo on oc]] W fun e w' => e = .returned (.int .i64 0) ∧ Below W.heap.size W w') := CR
  have CB : Hid (∀ (i : Int) W, Fv.At ⟨P, N, co, cn, cc, oo, on, oc, cs, os⟩ W → (-1099511627777 ≤ i ∧ i ≤ 1099511627776) → Calls Try.prog 46 #[.agg #[.int .i64 P, .int .i64 N, .slice co cn cc, .slice oo on oc], .int .i64 i] W fun e w' => BeOut ⟨P, N, co, cn, cc, oo, on, oc, cs, os⟩ i 1 e ∧ Hid (Below W.heap.size W w')) := CB
  clear hF rt hmid hs hso ok hL im jn
  obtain ⟨b, hb⟩ : ∃ b, w.heap.size = b := ⟨_, rfl⟩
  obtain ⟨r, hr'⟩ : ∃ z, b + 1 = z := ⟨_, rfl⟩
  obtain ⟨wb, hwb⟩ : ∃ z, ((w.alloc (.cells #[.int .i64 P, .int .i64 N, .slice co cn cc, .slice oo on oc] 25)).alloc (.cells #[.int .i64 0, .int .i64 0, .slice none 0 0, .slice none 0 0] 25)) = z := ⟨_, rfl⟩
  have KB : Hid (Below w.heap.size w wb) := Lib.hid (by rw [← hwb]; exact ((Below.refl _ w).alloc (Nat.le_refl _) _).alloc (by simp) _)
  have B0 : Hid (wb.heap[b]? = some (.cells #[.int .i64 P, .int .i64 N, .slice co cn cc, .slice oo on oc] 25 (0, 0))) := Lib.hid (by rw [← hwb]; exact (Below.heap_alloc _ _ _ (by simp; omega)).trans (heap_at hb))
  have B1 : Hid (wb.heap[r]? = some (.cells #[.int .i64 0, .int .i64 0, .slice none 0 0, .slice none 0 0] 25 (0, 0))) := Lib.hid (by rw [← hwb]; exact heap_at (by simp; omega))
  have HRD : Hid (w.heap.size ≤ b ∧ b < r) := Lib.hid (by omega)
  have HX := Lib.hid hwb
  have HX0 := Lib.hid hb
  have HX1 := Lib.hid hr'
  clear hwb hb hr'
  show Calls Try.prog 20 #[.agg #[.int .i64 P, .int .i64 N, .slice co cn cc, .slice oo on oc], .int .i64 m, .int .i64 n] w _
  go_enter Try.func20, Try.ntmps20
  go_upto_region 1 with fail
  try rw [HX.out]
  try rw [HX0.out]
  try rw [HX1.out]
  clear HX HX0 HX1
  have nlt : ¬ n < m := by omega
  have c0 := cell_block B0.out 0
  have c1 := cell_block B0.out 1
  have c2 := cell_block B0.out 2
  have c3 := cell_block B0.out 3
  go_wp2_with fail
  (with_reducible refine (CI.out _).mono ?_)
  rintro e w1 ⟨rfl, rfl⟩
  go_wp2_with fail
  (with_reducible refine (CJ.out _).mono ?_)
  rintro e w1 ⟨rfl, rfl⟩
  go_wp2_with fail
  (with_reducible refine (CR.out _ (HF.out.keep KB.out)).mono ?_)
  rintro e w1 ⟨rfl, q⟩
  have KB1 := Lib.hid (KB.out.trans (q.mono KB.out.size))
  have B0b := Lib.hid (heap_keep B0.out q)
  have B1b := Lib.hid (heap_keep B1.out q)
  clear q c0 c1 c2 c3 KB B0 B1 CR CI CJ
  have c0 := cell_block B0b.out 0
  have c1 := cell_block B0b.out 1
  have c2 := cell_block B0b.out 2
  have c3 := cell_block B0b.out 3
  obtain ⟨g, hg⟩ : ∃ z, w1.heap.size = z := ⟨_, rfl⟩
  obtain ⟨w3, hw3⟩ : ∃ z, w1.alloc (.cells #[.int .i64 0, .int .i64 0, .slice none 0 0, .slice none 0 0] 25) = z := ⟨_, rfl⟩
  have K3 : Below w1.heap.size w1 w3 := by rw [← hw3]; exact (Below.refl _ w1).alloc (Nat.le_refl _) _
  have HG3 : Hid (w3.heap[g]? = some (.cells #[.int .i64 0, .int .i64 0, .slice none 0 0, .slice none 0 0] 25 (0, 0))) := Lib.hid (by rw [← hw3]; exact heap_at hg)
  have KB3 := Lib.hid (KB1.out.trans (K3.mono KB1.out.size))
  have B0d := Lib.hid (heap_keep B0b.out K3)
  have B1d := Lib.hid (heap_keep B1b.out K3)
  have HRG : Hid (r < g ∧ w3.heap.size = g + 1) := Lib.hid ⟨by have := (Array.getElem?_eq_some_iff.1 B1b.out).1; omega, by rw [← hw3, ← hg]; simp⟩
  obtain ⟨n₂, hn2⟩ : ∃ z, w3.heap.size = z := ⟨_, rfl⟩
  have HN2 := Lib.hid hn2
  rw [hn2] at HRG
  have HGW0 : Hid (GpW w w3 b r g n₂ 0 0 #[.int .i64 P, .int .i64 N, .slice co cn cc, .slice oo on oc] (.slice none 0 0) (.slice none 0 0)) := Lib.hid ⟨KB3.out, by rw [hn2]; exact Nat.le_refl _, B0d.out, B1d.out, HG3.out, HRD.out.1, HRD.out.2, HRG.out.1, by have := HRG.out; omega⟩
  have HWX := Lib.hid hw3
  have HWG := Lib.hid hg
  clear hw3 hg hn2 K3 KB1 B0b B1b
  go_upto_region 6 with fail
  try rw [HWX.out]
  try rw [HWG.out]
  clear HWX HWG c0 c1 c2 c3
  have c0 := cell_block B0d.out 0
  have c1 := cell_block B0d.out 1
  have c2 := cell_block B0d.out 2
  have c3 := cell_block B0d.out 3
  go_wp2_with fail
  (with_reducible refine (CB.out _ _ (HF.out.keep KB3.out) ⟨by omega, by omega⟩).mono ?_)
  rintro e w4 ⟨⟨j0, ok0, rfl, b1, b2⟩, q⟩
  have HGW1 := Lib.hid (HGW0.out.keep q.out)
  have HSN : Hid (SbN L n 0 j0 ok0) := Lib.hid (sb_first HSL.out HIM.out HJN.out b1 b2)
  clear q b1 b2 c0 c1 c2 c3 KB3 B0d B1d HG3 HGW0 HRG HN2
  go_wp2_with fail
  rename_i K hK
  have HEND : Hid (∀ (wr : World) (oa : Option Addr) (oc' : Nat) (s9 s10 u41 u42 u43 u44 u45 u46 u47 u48 u49 u50 u51 u52 u53 u54 u55 u56 u57 u58 u59 u60 u61 u62 u63 u64 : Value), L.length ≤ 6000 → Hid (GpW w wr b r g n₂ 0 0 #[.int .i64 P, .int .i64 N, .slice co cn cc, .slice oo on oc] (.slice none 0 0) (.slice oa L.length oc')) → Hid (OdOwn wr n₂ (.slice oa L.length oc') L.length (sbBare (L.take L.length))) → K { tmps := #[.agg #[.int .i64 P, .int .i64 N, .slice co cn cc, .slice oo on oc], .int .i64 m, .int .i64 n, .pointer (some ⟨b, 0, none⟩), undef, undef, .pointer (some ⟨r, 0, none⟩), .int .i64 0, .pointer (some ⟨g, 0, none⟩), s9, s10, undef, undef, undef, undef, undef, .int .i64 m, .bool true, .bool false, .bool false, .int .i64 n, .bool true, .bool false, .bool false, .bool false, .int .i64 m, .int .i64 n, .bool (decide (n < m)), .bool (decide (n < m)), undef, .agg #[.int .i64 P, .int .i64 N, .slice co cn cc, .slice oo on oc], .int .i64 0, .bool false, undef, .tuple #[.int .i64 j0, .bool ok0], .agg #[.int .i64 P, .int .i64 N, .slice co cn cc, .slice oo on oc], .int .i64 m, .int .i64 (m - 1), .tuple #[.int .i64 j0, .bool ok0], .int .i64 j0, .bool ok0, u41, u42, u43, u44, u45, u46, u47, u48, u49, u50, u51, u52, u53, u54, u55, u56, u57, u58, u59, u60, u61, u62, u63, u64, undef, undef, undef, undef, undef, undef, undef, undef, undef, undef, undef, undef, undef, undef, undef, undef, undef, undef, undef, undef, undef, undef, undef, undef, undef, undef, undef, undef, undef, undef, undef, undef, undef, undef, undef], defers := [] } wr) := Lib.hid (by
    clear HGW1 HSN CB HIM HJN
    intro wr oa oc' s9 s10 u41 u42 u43 u44 u45 u46 u47 u48 u49 u50 u51 u52 u53 u54 u55 u56 u57 u58 u59 u60 u61 u62 u63 u64 hk2 HGW HOD
    refine hK _ _ ?_
    clear hK
    have p3 : wr.cell? ⟨g, 3, none⟩ = some (.slice oa L.length oc') := cell_block HGW.out.g_ 3
    go_wp2_with fail
    clear p3
    have HOD0 : Hid (OdOwn wr n₂ (.slice oa L.length oc') L.length (sbMid (gr ⟨P, N, co, cn, cc, oo, on, oc, cs, os⟩) L 0)) := Lib.hid (by rw [sbMid_zero]; have h := HOD.out; rw [List.take_length] at h; exact h)
    have HGW0 := HGW
    have HNL : Hid (L.length ≤ 6000) := Lib.hid hk2
    clear HGW HOD
    obtain ⟨wq, hwq⟩ : ∃ z, z = wr := ⟨_, rfl⟩
    rw [← hwq] at HGW0 HOD0 ⊢
    clear hwq wr
    go_loopw [7, 11, 12, 13, 14, 15, 68] (fun s7 s11 s12 s13 s14 s15 ii wr => ∃ (k : Nat) (room : Int), k ≤ L.length ∧ ii = .int .i64 k ∧ s7 = .int .i64 0 ∧ s11 = .int .i64 room ∧ 60000 - (k : Int) * 1000 ≤ room ∧ room ≤ 60000 ∧ Hid (room = 60000 - (lens (tks (sbOs (gr ⟨P, N, co, cn, cc, oo, on, oc, cs, os⟩) (L.take k))) : Int)) ∧ Hid (GpW w wr b r g n₂ 0 0 #[.int .i64 P, .int .i64 N, .slice co cn cc, .slice oo on oc] (.slice none 0 0) (.slice oa L.length oc')) ∧ Hid (OdOwn wr n₂ (.slice oa L.length oc') L.length (sbMid (gr ⟨P, N, co, cn, cc, oo, on, oc, cs, os⟩) L k)) ∧ Hid (∀ z ∈ L.take k, Told z (gr ⟨P, N, co, cn, cc, oo, on, oc, cs, os⟩ z))) (fun s7 s11 s12 s13 s14 s15 ii _ => L.length - (intOf ii).toNat)
    case atStart => exact ⟨0, 60000, Nat.zero_le _, rfl, rfl, rfl, by omega, by omega, Lib.hid (by simp [sbOs, lens]), HGW0, HOD0, Lib.hid (fun z h => by simp at h)⟩
    case round =>
      clear HGW0 HOD0
      obtain ⟨k, room, hk, rfl, rfl, rfl, hr1, hr2, HRM, HGW, HOD, HTL⟩ := hrel
      by_cases klt : k < L.length
      · skip
        have k1 : (k : Int) < (L.length : Int) := by omega
        obtain ⟨nm, hnm⟩ : ∃ z, L.length = z + 1 := ⟨L.length - 1, by omega⟩
        obtain ⟨X, hX⟩ : ∃ z, L[k] = z := ⟨_, rfl⟩
        have HXI : Hid (X = L[k]) := Lib.hid hX.symm
        obtain ⟨xs0, hown0, hinn0⟩ := HOD.out.row
        have hown1 := hown0
        rw [hnm] at hown1
        obtain ⟨ga, ca', hca⟩ := ownsRow_succ hown1
        injection hca with hca _ hca2
        subst hca
        subst hca2
        have kl : k < (sbMid (gr ⟨P, N, co, cn, cc, oo, on, oc, cs, os⟩) L k).length := by rw [sbMid_len]; exact klt
        obtain ⟨e1, ⟨u, e2, e3⟩, e4⟩ := hinn0 k kl
        clear e4
        rw [sbMid_at (gr ⟨P, N, co, cn, cc, oo, on, oc, cs, os⟩) klt kl] at e1 e3
        have e1 : xs0[k * 2]? = some (.int .i64 X) := by rw [← hX]; exact e1
        obtain ⟨ot, dt, rfl, _⟩ := own_sp rfl e3
        have e2 : xs0[k * 2 + 1]? = some (.slice ot 0 dt) := e2
        have u0 : wr.cell? ⟨ga, k * 2, none⟩ = some (.int .i64 X) := by rw [hown0.cellAt (k * 2) (by omega)]; exact e1
        have u1 : wr.cell? ⟨ga, k * 2 + 1, none⟩ = some (.slice ot 0 dt) := by rw [hown0.cellAt (k * 2 + 1) (by omega)]; exact e2
        have XR : InR X := by have h := (HSL.out.mem L[k]).1 (List.getElem_mem klt); rw [hX] at h; exact ⟨by have := h.1; omega, by have := h.2.1; omega⟩
        have X1 : -1099511627776 ≤ X := XR.1
        have X2 : X ≤ 1099511627776 := XR.2
        have HKL : Hid (k < L.length) := Lib.hid klt
        clear hown0 hown1 hinn0 e1 e2 e3 kl XR hX hnm
        obtain ⟨wx, hwx⟩ : ∃ z, wr.alloc (.cells #[.int .i64 X, .slice ot 0 dt] 52) = z := ⟨_, rfl⟩
        have KA : Below wr.heap.size wr wx := by rw [← hwx]; exact (Below.refl _ _).alloc (Nat.le_refl _) _
        obtain ⟨q, hq⟩ : ∃ z, wr.heap.size = z := ⟨_, rfl⟩
        have HQ : Hid (wx.heap[q]? = some (.cells #[.int .i64 X, .slice ot 0 dt] 52 (0, 0))) := Lib.hid (by rw [← hwx]; exact heap_at hq)
        have HGX := Lib.hid (HGW.out.keep KA)
        have HOX := Lib.hid (HOD.out.keep KA)
        have HWX := Lib.hid hwx
        have HQX := Lib.hid hq
        clear hwx hq KA HGW HOD
        go_upto_region 16 with fail
        rw [HWX.out, HQX.out]
        clear HWX HQX u0 u1
        have u0 := cell_block HQ.out 0
        have u1 := cell_block HQ.out 1
        have CC := Lib.hid (collect47_any (gr ⟨P, N, co, cn, cc, oo, on, oc, cs, os⟩) (fun j => Told j (gr ⟨P, N, co, cn, cc, oo, on, oc, cs, os⟩ j)) X room 1 b wx (fun W j hW h1 h2 => CT.out W j b (HF.out.keep (HGX.out.bw.trans (hW.mono HGX.out.bw.size))) (heap_keep HGX.out.b0 hW)) (fun j h => h.2) (fun j => Nat.le_trans (HGL.out j) (by omega)) (by omega) (by omega) (by omega) (by omega) (by omega))
        rw [show ((1 : Nat) : Int) = 1 from rfl] at CC
        go_wp2_with fail
        (with_reducible refine CC.out.mono ?_)
        rintro e wv ⟨v, kk, rfl, q', hv⟩
        have HGV := Lib.hid (HGX.out.keep q'.out)
        have HOV := Lib.hid (HOX.out.keep q'.out)
        have HSY : Hid (n₂ ≤ wx.heap.size) := Lib.hid HGX.out.sz
        clear q' CC HGX HOX u0 u1 HQ
        rcases hv.out with ⟨hok, hk0, hrow⟩ | ⟨hok, hk0, hv0⟩
        · subst hk0
          obtain ⟨ao, nc, rfl, hsp⟩ := own_sp rfl hrow
          obtain ⟨Lc, hLc⟩ : ∃ z, colF room (many (gr ⟨P, N, co, cn, cc, oo, on, oc, cs, os⟩) X 1) = z := ⟨_, rfl⟩
          obtain ⟨nn, hnn⟩ : ∃ z, Lc.length = z := ⟨_, rfl⟩
          have nnb : nn ≤ 1000 := by
            have h := many_lens HGL.out X 1 room
            rw [hLc, hnn] at h
            omega
          rw [hLc] at hrow
          rw [hLc, hnn]
          rw [hnn] at hrow
          have HROW : Hid (wv.ownsRow n₂ 50 2 (.slice ao nn nc) Lc.length (spCells Lc)) := Lib.hid (by rw [hnn]; exact own_base hrow HSY.out)
          have HTK : Hid (Told X (gr ⟨P, N, co, cn, cc, oo, on, oc, cs, os⟩ X)) := Lib.hid (by have h := hok 0 (by omega); simpa using h)
          have HLC := Lib.hid hLc
          have HNN := Lib.hid hnn
          clear hok hrow hsp hnn hLc hv
          have p3 : wv.cell? ⟨g, 3, none⟩ = some (.slice (some ⟨ga, 0, none⟩) L.length oc') := cell_block HGV.out.g_ 3
          have HOW := HOV.out.row
          have u1 : wv.frozen? ⟨ga, k * 2 + 1, none⟩ = false := by obtain ⟨xs, a, _⟩ := HOV.out.row; exact a.frozenAt _
          have u0 : ∃ y, wv.cell? ⟨ga, k * 2 + 1, none⟩ = some y := by obtain ⟨xs, a, z⟩ := HOV.out.row; obtain ⟨_, ⟨y, h2, _⟩, _⟩ := z k (by rw [sbMid_len]; exact HKL.out); exact ⟨y, by rw [a.cellAt (k * 2 + 1) (by have := HKL.out; omega)]; exact h2⟩
          obtain ⟨yv, u0⟩ := u0
          have HGF : Hid (n₂ ≤ ga) := Lib.hid (by obtain ⟨xs, a, _⟩ := HOV.out.row; exact (a.lt ga rfl).1)
          clear HOW
          have HKS : Hid (k < (sbMid (gr ⟨P, N, co, cn, cc, oo, on, oc, cs, os⟩) L k).length) := Lib.hid (by rw [sbMid_len]; exact HKL.out)
          have HOS := Lib.hid (od_set (l := Lc) (u := .slice ao nn nc) HOV.out HKS.out HROW.out)
          have HOS : Hid (OdOwn (wv.setCell ⟨ga, k * 2 + 1, none⟩ (.slice ao nn nc)) n₂ (.slice (some ⟨ga, 0, none⟩) L.length oc') L.length (sbMid (gr ⟨P, N, co, cn, cc, oo, on, oc, cs, os⟩) L (k + 1))) := Lib.hid (by
            have h := HOS.out
            rw [sbMid_at (gr ⟨P, N, co, cn, cc, oo, on, oc, cs, os⟩) HKL.out HKS.out] at h
            rw [sbMid_step (gr ⟨P, N, co, cn, cc, oo, on, oc, cs, os⟩) HKL.out, ← HRM.out, ← HXI.out, HLC.out]
            rw [← HXI.out] at h
            exact h)
          have HGS := Lib.hid (HGV.out.grown (grown_cell wv ⟨ga, k * 2 + 1, none⟩ (.slice ao nn nc)) (fun y e => by cases e; exact HGF.out))
          have HRM2 : Hid (room - (nn : Int) = 60000 - (lens (tks (sbOs (gr ⟨P, N, co, cn, cc, oo, on, oc, cs, os⟩) (L.take (k + 1)))) : Int)) := Lib.hid (by
            rw [List.take_succ_eq_append_getElem HKL.out, sbOs_snoc]
            unfold sbStep
            rw [lens_snocG, ← HRM.out, ← HXI.out, HLC.out, HNN.out]
            have := HRM.out
            omega)
          have HTL2 : Hid (∀ z ∈ L.take (k + 1), Told z (gr ⟨P, N, co, cn, cc, oo, on, oc, cs, os⟩ z)) := Lib.hid (fun z hz => by
            rw [List.take_succ_eq_append_getElem HKL.out] at hz
            rcases List.mem_append.1 hz with hz | hz
            · exact HTL.out z hz
            · rw [List.mem_singleton.1 hz, ← HXI.out]; exact HTK.out)
          clear HTL HRM HGV HOV HROW
          go_wp2_with fail
          go_roundw
          case rel => exact ⟨k + 1, _, by omega, by simp, rfl, rfl, by omega, by omega, HRM2, HGS, HOS, HTL2⟩
          case measure => simp [intOf]; omega
        · subst hk0
          subst hv0
          have HBD : Hid (¬ ∀ z ∈ L, Told z (gr ⟨P, N, co, cn, cc, oo, on, oc, cs, os⟩ z)) := Lib.hid (fun h => hok (fun j hj => by
            obtain rfl : j = 0 := by omega
            have h := h X (by rw [HXI.out]; exact List.getElem_mem HKL.out)
            simpa using h))
          clear hok hv
          have r0 := cell_block HGV.out.b1 0
          have r1 := cell_block HGV.out.b1 1
          have r2 := cell_block HGV.out.b1 2
          have r3 := cell_block HGV.out.b1 3
          have f0 := free_blk HGV.out.b1 0
          have f1 := free_blk HGV.out.b1 1
          have f2 := free_blk HGV.out.b1 2
          have f3 := free_blk HGV.out.b1 3
          go_wp2_with fail
          have RP := Lib.hid (res_put4 HGV.out.b1 HGV.out.bw (by have := HRD.out; omega) (.int .i64 0) (.int .i64 0) (.slice none 0 0) (.slice none 0 0))
          obtain ⟨we, hwe⟩ : ∃ we, (((wv.setCell ⟨r, 0, none⟩ (.int .i64 0)).setCell ⟨r, 1, none⟩ (.int .i64 0)).setCell ⟨r, 2, none⟩ (.slice none 0 0)).setCell ⟨r, 3, none⟩ (.slice none 0 0) = we := ⟨_, rfl⟩
          rw [hwe] at RP ⊢
          clear r0 r1 r2 r3 f0 f1 f2 f3 hwe
          have r0 := cell_block RP.out.1 0
          have r1 := cell_block RP.out.1 1
          have r2 := cell_block RP.out.1 2
          have r3 := cell_block RP.out.1 3
          exact bodyPost_ret (v := .tuple #[.agg #[(.int .i64 0), (.int .i64 0), (.slice none 0 0), (.slice none 0 0)], .int .i64 20]) (by simp [results, Try.results20, go_sem, r0, r1, r2, r3]) rfl (⟨.inr (.inl ⟨HNL.out, HBD.out, rfl⟩), Lib.hid RP.out.2.1⟩)
      · obtain rfl : k = L.length := by omega
        have HSO : Hid (OdOwn wr n₂ (.slice oa L.length oc') L.length (sbOs (gr ⟨P, N, co, cn, cc, oo, on, oc, cs, os⟩) L)) := Lib.hid (by have h := HOD.out; rw [sbMid_all] at h; exact h)
        have HTA : Hid (∀ z ∈ L, Told z (gr ⟨P, N, co, cn, cc, oo, on, oc, cs, os⟩ z)) := Lib.hid (by have h := HTL.out; rw [List.take_length] at h; exact h)
        obtain ⟨oo1, c2, e2, xk2⟩ := HSO.out.vs
        cases e2
        have HKA : Hid (Fv.At (⟨0, 0, none, 0, 0, oa, L.length, oc', [], sbOs (gr ⟨P, N, co, cn, cc, oo, on, oc, cs, os⟩) L⟩ : Fv) wr) := Lib.hid ⟨(show (-9223372036854775808 : Int) ≤ 0 by decide), (show (0 : Int) ≤ 9223372036854775807 by decide), (show (-9223372036854775808 : Int) ≤ 0 by decide), (show (0 : Int) ≤ 9223372036854775807 by decide), (by obtain ⟨ao, c, e, x⟩ := (show CoOwn wr n₂ (.slice none 0 0) 0 [] from ⟨rfl, [], World.ownsRow_nil _ _ _ _, fun i h => absurd h (Nat.not_lt_zero i)⟩).vs; cases e; exact x), xk2, ⟨fun l hl => (by cases hl), fun o ho => by have h1 := sb_each HGL.out L [] (fun o h => by cases h) o ho; omega⟩⟩
        clear xk2 HRM HOD HTL hr1 hr2
        have hL6 : L.length ≤ 6000 := HNL.out
        by_cases big : 60000 < Fv.size (⟨0, 0, none, 0, 0, oa, L.length, oc', [], sbOs (gr ⟨P, N, co, cn, cc, oo, on, oc, cs, os⟩) L⟩ : Fv)
        · have CD := Lib.hid (done_long (⟨0, 0, none, 0, 0, oa, L.length, oc', [], sbOs (gr ⟨P, N, co, cn, cc, oo, on, oc, cs, os⟩) L⟩ : Fv) wr HKA.out (show 0 ≤ 6000 by omega) (show L.length ≤ 6000 by omega) big)
          have CD : Hid (Calls Try.prog 27 #[.agg #[.int .i64 0, .int .i64 0, .slice none 0 0, .slice oa L.length oc']] wr fun e w' => e = .returned (.tuple #[.agg #[.int .i64 0, .int .i64 0, .slice none 0 0, .slice none 0 0], .int .i64 3]) ∧ Hid (Below wr.heap.size wr w')) := CD
          have HBIG : Hid (60000 < (sbF ⟨P, N, co, cn, cc, oo, on, oc, cs, os⟩ L).size) := Lib.hid big
          clear big
          have p0 := cell_block HGW.out.g_ 0
          have p1 := cell_block HGW.out.g_ 1
          have p2 := cell_block HGW.out.g_ 2
          have p3 := cell_block HGW.out.g_ 3
          go_wp2_with fail
          (with_reducible refine CD.out.mono ?_)
          rintro e wz ⟨rfl, q⟩
          have HGZ := Lib.hid (HGW.out.keep q.out)
          clear q p0 p1 p2 p3 CD
          have r0 := cell_block HGZ.out.b1 0
          have r1 := cell_block HGZ.out.b1 1
          have r2 := cell_block HGZ.out.b1 2
          have r3 := cell_block HGZ.out.b1 3
          have f0 := free_blk HGZ.out.b1 0
          have f1 := free_blk HGZ.out.b1 1
          have f2 := free_blk HGZ.out.b1 2
          have f3 := free_blk HGZ.out.b1 3
          go_wp2_with fail
          have RP := Lib.hid (res_put4 HGZ.out.b1 HGZ.out.bw (by have := HRD.out; omega) (.int .i64 0) (.int .i64 0) (.slice none 0 0) (.slice none 0 0))
          obtain ⟨we, hwe⟩ : ∃ we, (((wz.setCell ⟨r, 0, none⟩ (.int .i64 0)).setCell ⟨r, 1, none⟩ (.int .i64 0)).setCell ⟨r, 2, none⟩ (.slice none 0 0)).setCell ⟨r, 3, none⟩ (.slice none 0 0) = we := ⟨_, rfl⟩
          rw [hwe] at RP ⊢
          clear r0 r1 r2 r3 f0 f1 f2 f3 hwe
          have r0 := cell_block RP.out.1 0
          have r1 := cell_block RP.out.1 1
          have r2 := cell_block RP.out.1 2
          have r3 := cell_block RP.out.1 3
          exact bodyPost_ret (v := .tuple #[.agg #[(.int .i64 0), (.int .i64 0), (.slice none 0 0), (.slice none 0 0)], .int .i64 3]) (by simp [results, Try.results20, go_sem, r0, r1, r2, r3]) rfl (⟨.inr (.inr ⟨HNL.out, HTA.out, .inl ⟨HBIG.out, rfl⟩⟩), Lib.hid RP.out.2.1⟩)
        · have HBIG : Hid ((sbF ⟨P, N, co, cn, cc, oo, on, oc, cs, os⟩ L).size ≤ 60000) := Lib.hid (by have h : Fv.size (⟨0, 0, none, 0, 0, oa, L.length, oc', [], sbOs (gr ⟨P, N, co, cn, cc, oo, on, oc, cs, os⟩) L⟩ : Fv) ≤ 60000 := (by omega); exact h)
          have HMK : Hid (Fv.Mid (⟨0, 0, none, 0, 0, oa, L.length, oc', [], sbOs (gr ⟨P, N, co, cn, cc, oo, on, oc, cs, os⟩) L⟩ : Fv)) := Lib.hid ⟨show 0 ≤ 6000 by omega, show L.length ≤ 6000 by omega, by omega⟩
          clear big
          by_cases rk : Fv.Rt (⟨0, 0, none, 0, 0, oa, L.length, oc', [], sbOs (gr ⟨P, N, co, cn, cc, oo, on, oc, cs, os⟩) L⟩ : Fv)
          · have HRK := Lib.hid rk
            have CD := Lib.hid (done_ok (⟨0, 0, none, 0, 0, oa, L.length, oc', [], sbOs (gr ⟨P, N, co, cn, cc, oo, on, oc, cs, os⟩) L⟩ : Fv) wr HKA.out HMK.out rk)
            have CD : Hid (Calls Try.prog 27 #[.agg #[.int .i64 0, .int .i64 0, .slice none 0 0, .slice oa L.length oc']] wr fun e w' => ∃ G : Fv, e = .returned (.tuple #[G.v, .int .i64 0]) ∧ Hid (IsCan (⟨0, 0, none, 0, 0, oa, L.length, oc', [], sbOs (gr ⟨P, N, co, cn, cc, oo, on, oc, cs, os⟩) L⟩ : Fv) G) ∧ Hid (G.Own w' wr.heap.size) ∧ Hid (Below wr.heap.size wr w')) := CD
            clear rk
            have p0 := cell_block HGW.out.g_ 0
            have p1 := cell_block HGW.out.g_ 1
            have p2 := cell_block HGW.out.g_ 2
            have p3 := cell_block HGW.out.g_ 3
            go_wp2_with fail
            (with_reducible refine CD.out.mono ?_)
            rintro e wz ⟨G, rfl, HIC, HGO2, q⟩
            obtain ⟨GP, GN, gco, gcn, gcc, goo, gon, goc, gcs, gos⟩ := G
            have HGZ := Lib.hid (HGW.out.keep q.out)
            clear q p0 p1 p2 p3 CD
            have r0 := cell_block HGZ.out.b1 0
            have r1 := cell_block HGZ.out.b1 1
            have r2 := cell_block HGZ.out.b1 2
            have r3 := cell_block HGZ.out.b1 3
            have f0 := free_blk HGZ.out.b1 0
            have f1 := free_blk HGZ.out.b1 1
            have f2 := free_blk HGZ.out.b1 2
            have f3 := free_blk HGZ.out.b1 3
            go_wp2_with fail
            have RP := Lib.hid (res_put4 HGZ.out.b1 HGZ.out.bw (by have := HRD.out; omega) (.int .i64 GP) (.int .i64 GN) (.slice gco gcn gcc) (.slice goo gon goc))
            have HOE := Lib.hid ((HGO2.out.row RP.out.2.2 (by have := HGW.out.sz; have := HGW.out.mid; have := HGW.out.hi; omega)).mono HGW.out.bw.size)
            obtain ⟨we, hwe⟩ : ∃ we, (((wz.setCell ⟨r, 0, none⟩ (.int .i64 GP)).setCell ⟨r, 1, none⟩ (.int .i64 GN)).setCell ⟨r, 2, none⟩ (.slice gco gcn gcc)).setCell ⟨r, 3, none⟩ (.slice goo gon goc) = we := ⟨_, rfl⟩
            rw [hwe] at RP HOE ⊢
            clear r0 r1 r2 r3 f0 f1 f2 f3 hwe
            have r0 := cell_block RP.out.1 0
            have r1 := cell_block RP.out.1 1
            have r2 := cell_block RP.out.1 2
            have r3 := cell_block RP.out.1 3
            exact bodyPost_ret (v := .tuple #[.agg #[(.int .i64 GP), (.int .i64 GN), (.slice gco gcn gcc), (.slice goo gon goc)], .int .i64 0]) (by simp [results, Try.results20, go_sem, r0, r1, r2, r3]) rfl (⟨.inr (.inr ⟨HNL.out, HTA.out, .inr (.inr ⟨HBIG.out, (⟨0, 0, none, 0, 0, oa, L.length, oc', [], sbOs (gr ⟨P, N, co, cn, cc, oo, on, oc, cs, os⟩) L⟩ : Fv), ⟨GP, GN, gco, gcn, gcc, goo, gon, goc, gcs, gos⟩, ⟨rfl, rfl, rfl, rfl, rfl, rfl⟩, HRK.out, HIC.out, HOE.out, rfl⟩)⟩), Lib.hid RP.out.2.1⟩)
          · have HNK : Hid (¬ (sbF ⟨P, N, co, cn, cc, oo, on, oc, cs, os⟩ L).Rt) := Lib.hid (fun z => rk (rt_like z rfl rfl rfl rfl rfl rfl))
            have CD := Lib.hid (done_no (⟨0, 0, none, 0, 0, oa, L.length, oc', [], sbOs (gr ⟨P, N, co, cn, cc, oo, on, oc, cs, os⟩) L⟩ : Fv) wr HKA.out HMK.out rk)
            have CD : Hid (Calls Try.prog 27 #[.agg #[.int .i64 0, .int .i64 0, .slice none 0 0, .slice oa L.length oc']] wr fun e w' => e = .returned (.tuple #[.agg #[.int .i64 0, .int .i64 0, .slice none 0 0, .slice none 0 0], .int .i64 20]) ∧ Hid (Below wr.heap.size wr w')) := CD
            clear rk
            have p0 := cell_block HGW.out.g_ 0
            have p1 := cell_block HGW.out.g_ 1
            have p2 := cell_block HGW.out.g_ 2
            have p3 := cell_block HGW.out.g_ 3
            go_wp2_with fail
            (with_reducible refine CD.out.mono ?_)
            rintro e wz ⟨rfl, q⟩
            have HGZ := Lib.hid (HGW.out.keep q.out)
            clear q p0 p1 p2 p3 CD
            have r0 := cell_block HGZ.out.b1 0
            have r1 := cell_block HGZ.out.b1 1
            have r2 := cell_block HGZ.out.b1 2
            have r3 := cell_block HGZ.out.b1 3
            have f0 := free_blk HGZ.out.b1 0
            have f1 := free_blk HGZ.out.b1 1
            have f2 := free_blk HGZ.out.b1 2
            have f3 := free_blk HGZ.out.b1 3
            go_wp2_with fail
            have RP := Lib.hid (res_put4 HGZ.out.b1 HGZ.out.bw (by have := HRD.out; omega) (.int .i64 0) (.int .i64 0) (.slice none 0 0) (.slice none 0 0))
            obtain ⟨we, hwe⟩ : ∃ we, (((wz.setCell ⟨r, 0, none⟩ (.int .i64 0)).setCell ⟨r, 1, none⟩ (.int .i64 0)).setCell ⟨r, 2, none⟩ (.slice none 0 0)).setCell ⟨r, 3, none⟩ (.slice none 0 0) = we := ⟨_, rfl⟩
            rw [hwe] at RP ⊢
            clear r0 r1 r2 r3 f0 f1 f2 f3 hwe
            have r0 := cell_block RP.out.1 0
            have r1 := cell_block RP.out.1 1
            have r2 := cell_block RP.out.1 2
            have r3 := cell_block RP.out.1 3
            exact bodyPost_ret (v := .tuple #[.agg #[(.int .i64 0), (.int .i64 0), (.slice none 0 0), (.slice none 0 0)], .int .i64 20]) (by simp [results, Try.results20, go_sem, r0, r1, r2, r3]) rfl (⟨.inr (.inr ⟨HNL.out, HTA.out, .inr (.inl ⟨HBIG.out, HNK.out, rfl⟩)⟩), Lib.hid RP.out.2.1⟩)
    )
  clear hK
  go_loopw [7, 9, 10] (fun s7 s9 s10 wr => ∃ (k : Nat) (oa : Option Addr) (oc' : Nat) (i : Int) (ok : Bool), k ≤ L.length ∧ k ≤ 6000 ∧ s7 = .int .i64 0 ∧ s9 = .int .i64 i ∧ s10 = .bool ok ∧ Hid (GpW w wr b r g n₂ 0 0 #[.int .i64 P, .int .i64 N, .slice co cn cc, .slice oo on oc] (.slice none 0 0) (.slice oa k oc')) ∧ Hid (OdOwn wr n₂ (.slice oa k oc') k (sbBare (L.take k))) ∧ Hid (SbN L n k i ok)) (fun s7 s9 s10 _ => sbMs n s9 s10)
  case atStart => exact ⟨0, none, 0, j0, ok0, Nat.zero_le _, Nat.zero_le _, rfl, rfl, rfl, HGW1, Lib.hid ⟨rfl, [], World.ownsRow_nil _ _ _ _, fun i h => absurd h (Nat.not_lt_zero i)⟩, HSN⟩
  case round =>
    clear HGW1 HSN
    obtain ⟨k, oa, oc', i, ok, hk1, hk2, rfl, rfl, rfl, HGW, HOD, HSN⟩ := hrel
    by_cases hin : ok = true ∧ i ≤ n
    · obtain ⟨rfl, hi⟩ := hin
      obtain ⟨iR, ix, _⟩ := HSN.out.1 rfl
      obtain ⟨hkL, hLi⟩ := ix hi
      have iR1 := iR.1
      have iR2 := iR.2
      clear iR ix
      by_cases k6 : k = 6000
      · have HLG : Hid (6000 < L.length) := Lib.hid (by omega)
        have p3 : wr.cell? ⟨g, 3, none⟩ = some (.slice oa k oc') := cell_block HGW.out.g_ 3
        have ke : ((k : Int) == 6000) = true := by simp; omega
        have r0 := cell_block HGW.out.b1 0
        have r1 := cell_block HGW.out.b1 1
        have r2 := cell_block HGW.out.b1 2
        have r3 := cell_block HGW.out.b1 3
        have f0 := free_blk HGW.out.b1 0
        have f1 := free_blk HGW.out.b1 1
        have f2 := free_blk HGW.out.b1 2
        have f3 := free_blk HGW.out.b1 3
        go_wp2_with fail
        have RP := Lib.hid (res_put4 HGW.out.b1 HGW.out.bw (by have := HRD.out; omega) (.int .i64 0) (.int .i64 0) (.slice none 0 0) (.slice none 0 0))
        obtain ⟨we, hwe⟩ : ∃ we, (((wr.setCell ⟨r, 0, none⟩ (.int .i64 0)).setCell ⟨r, 1, none⟩ (.int .i64 0)).setCell ⟨r, 2, none⟩ (.slice none 0 0)).setCell ⟨r, 3, none⟩ (.slice none 0 0) = we := ⟨_, rfl⟩
        rw [hwe] at RP ⊢
        clear r0 r1 r2 r3 f0 f1 f2 f3 hwe
        have r0 := cell_block RP.out.1 0
        have r1 := cell_block RP.out.1 1
        have r2 := cell_block RP.out.1 2
        have r3 := cell_block RP.out.1 3
        exact bodyPost_ret (v := .tuple #[.agg #[(.int .i64 0), (.int .i64 0), (.slice none 0 0), (.slice none 0 0)], .int .i64 3]) (by simp [results, Try.results20, go_sem, r0, r1, r2, r3]) rfl (⟨.inl ⟨HLG.out, rfl⟩, Lib.hid RP.out.2.1⟩)
      · have ke : ((k : Int) == 6000) = false := by simp; omega
        have p3 : wr.cell? ⟨g, 3, none⟩ = some (.slice oa k oc') := cell_block HGW.out.g_ 3
        have p3f : wr.frozen? ⟨g, 3, none⟩ = false := free_blk HGW.out.g_ 3
        obtain ⟨j1, hj1, hz0, hz1, hz2⟩ := info_parts info52s
        have HI3 := Lib.hid hj1
        have HZ0 := Lib.hid hz0
        have HZ1 := Lib.hid hz1
        have HZ2 := Lib.hid hz2
        obtain ⟨vs, hown, hinn⟩ := HOD.out.row
        have HOWN := Lib.hid hown
        have HINN := Lib.hid hinn
        clear hj1 hz0 hz1 hz2 hown hinn
        go_wp2_with (at_builtin; refine wpList_append_own _ rfl _ _ 23 rfl n₂ 52 j1 (.agg #[.int .i64 0, .slice none 0 0]) 2 32 Try.underlying23 HI3.out HZ0.out HZ1.out HZ2.out rfl (by decide) _ _ _ rfl (keepB HOWN.out ((Below.refl _ _).alloc (Nat.le_refl _) _)) ⟨wr.heap.size, 0, none⟩ 1 1 [.int .i64 i, .slice none 0 0] rfl rfl (World.news_of_block (cs := #[.int .i64 i, .slice none 0 0]) (t := 52) (fr := (0, 0)) (World.alloc_heap_new wr _)) (by intro y hy; simp at hy; rcases hy with rfl | rfl <;> rfl) (by unfold maxLen; omega) (by omega) (by have := HGW.out.sz; simp; omega) ?_; intro v' w8 hown' hgrow _; obtain ⟨g', cap', rfl⟩ := ownsRow_succ hown'; have HA8 := Lib.hid ((HGW.out.keep ((Below.refl _ wr).alloc (Nat.le_refl _) (.cells #[.int .i64 i, .slice none 0 0] 52))).grown hgrow (fun y e => (HOWN.out.lt y e).1)); have HN8 := Lib.hid hown'; have HG8 := Lib.hid hgrow; have p3' : w8.cell? ⟨g, 3, none⟩ = some (.slice oa k oc') := cell_block HA8.out.g_ 3; have q3' : w8.frozen? ⟨g, 3, none⟩ = false := free_blk HA8.out.g_ 3; have HPU := Lib.hid (HA8.out.put (.slice (some ⟨g', 0, none⟩) (k + 1) cap')); have c0 := cell_block HPU.out.b0 0; have c1 := cell_block HPU.out.b0 1; have c2 := cell_block HPU.out.b0 2; have c3 := cell_block HPU.out.b0 3; clear hown' hgrow)
        have HOF : Hid (∀ B e : Nat, 52 ≠ e → Off (wr.alloc (.cells #[.int .i64 i, .slice none 0 0] 52)) B e (Value.slice oa k oc').ownBlock) := Lib.hid (fun B e ne y hy => by
          obtain ⟨cur, t⟩ := own_typed (keepB HOWN.out ((Below.refl _ wr).alloc (Nat.le_refl _) (.cells #[.int .i64 i, .slice none 0 0] 52))) hy
          exact .inr ⟨cur, 52, t, ne⟩)
        have HOD2 : Hid (OdOwn (w8.setCell ⟨g, 3, none⟩ (.slice (some ⟨g', 0, none⟩) (k + 1) cap')) n₂ (.slice (some ⟨g', 0, none⟩) (k + 1) cap') (k + 1) (sbBare (L.take (k + 1)))) := Lib.hid (by
          have mv : ∀ {u : Value} {l : List Sp}, wr.ownsRow n₂ 50 2 u l.length (spCells l) → w8.ownsRow n₂ 50 2 u l.length (spCells l) := fun h => own_off (keepB h ((Below.refl _ wr).alloc (Nat.le_refl _) _)) HG8.out (HOF.out _ 50 (by decide))
          have c8 := od_snoc (i := i) (u := .slice none 0 0) (l := []) HOD.out.len HN8.out (fun i hi => by obtain ⟨h1, ⟨u, h2, h3⟩, h4⟩ := HINN.out i hi; exact ⟨h1, ⟨u, h2, mv h3⟩, h4⟩) (World.ownsRow_nil _ _ _ _) (by omega) (by omega)
          rw [show sbBare (L.take (k + 1)) = sbBare (L.take k) ++ [(i, [])] by rw [List.take_succ_eq_append_getElem hkL, hLi]; simp [sbBare]]
          exact c8.grown (grown_cell w8 ⟨g, 3, none⟩ _) (fun q e => .inl (by cases e; exact HA8.out.hi)) (fun q e => .inl (by cases e; exact HA8.out.hi)))
        clear HN8 HG8 HOF HOWN HINN HI3 HZ0 HZ1 HZ2 HOD p3 p3f p3' q3' c0 c1 c2 c3
        have HGP : Hid ((w8.setCell ⟨g, 3, none⟩ (.slice (some ⟨g', 0, none⟩) (k + 1) cap')).heap.size = w8.heap.size) := Lib.hid (by simp)
        obtain ⟨wp, hwp⟩ : ∃ z, w8.setCell ⟨g, 3, none⟩ (.slice (some ⟨g', 0, none⟩) (k + 1) cap') = z := ⟨_, rfl⟩
        have HWP := Lib.hid hwp
        rw [hwp] at HPU HOD2 ⊢
        clear hwp HGP HA8 HGW
        (with_reducible refine (CB.out i _ (HF.out.keep HPU.out.bw) ⟨by omega, by omega⟩).mono ?_)
        rintro e w9 ⟨⟨j, ok', rfl, b1, b2⟩, q⟩
        have HGN := Lib.hid (HPU.out.keep q.out)
        have HON := Lib.hid (HOD2.out.keep q.out)
        have HSM : Hid (SbN L n (k + 1) j ok') := Lib.hid (sb_more HSL.out HIM.out HJN.out hkL (by rw [hLi]; exact b1) (by rw [hLi]; exact b2))
        have HLT : Hid (ok' = true → i < j) := Lib.hid (fun z => by have := ((b1 z).1.yes rfl).1; omega)
        clear q b1 b2 HPU HOD2
        go_wp2_with fail
        go_roundw
        case rel => exact ⟨k + 1, _, _, j, ok', by omega, by omega, rfl, rfl, rfl, HGN, HON, HSM⟩
        case measure =>
          have h := HLT.out
          cases ok'
          · simp [sbMs, intOf]; omega
          · have := h rfl
            simp [sbMs, intOf]; omega
    · have hkL : k = L.length := by
        cases ok
        · exact HSN.out.2 rfl
        · exact (HSN.out.1 rfl).2.2 (by by_cases z : i ≤ n; exact absurd ⟨rfl, z⟩ hin; omega)
      clear HSN
      subst hkL
      cases ok
      · go_wp2_with fail
        exact HEND.out wr oa oc' _ _ _ _ _ _ _ _ _ _ _ _ _ _ _ _ _ _ _ _ _ _ _ _ _ _ hk2 HGW HOD
      · have hi : ¬ i ≤ n := fun z => hin ⟨rfl, z⟩
        go_wp2_with fail
        exact HEND.out wr oa oc' _ _ _ _ _ _ _ _ _ _ _ _ _ _ _ _ _ _ _ _ _ _ _ _ _ _ hk2 HGW HOD
end Go.Proofs.Ytmjapbjjfhmohaa
