/- H3 in one. -/
import Derived.Test.YtmjapbjjfhmohaaKu
namespace Go.Proofs.Ytmjapbjjfhmohaa
set_option linter.unusedVariables false
set_option linter.unusedSimpArgs false
open Go.ChangeShapes Go.WideShapes Go.ChangeAt Go.RowKit Go.Shelf
section
attribute [local go_sem] Oper.semAt_some

/-- A form of few sets, none of them long. -/
def Fv.Few (F : Fv) : Prop := F.cn ≤ 12 ∧ F.on ≤ 8 ∧ (∀ l ∈ F.cs, l.length ≤ 1000) ∧ ∀ o ∈ F.os, o.2.length ≤ 1000
theorem Fv.Few.mid {F : Fv} (h : F.Few) (l1 : F.cs.length = F.cn) (l2 : F.os.length = F.on) : F.Mid := by
  obtain ⟨a, b, c, d⟩ := h
  refine ⟨by omega, by omega, ?_⟩
  have e := lens_le c
  have f := lens_le (ls := tks F.os) (m := 1000) (fun l hl => by
    obtain ⟨o, ho, rfl⟩ := List.mem_map.1 hl
    exact d o ho)
  have g : (tks F.os).length = F.os.length := by simp [tks]
  have h1 : F.cs.length * 1000 ≤ 12 * 1000 := Nat.mul_le_mul_right _ (by omega)
  have h2 : (tks F.os).length * 1000 ≤ 8 * 1000 := Nat.mul_le_mul_right _ (by omega)
  unfold Fv.size
  omega
theorem Fv.Small.few {F : Fv} (h : F.Small) : F.Few := by
  obtain ⟨a, b, c⟩ := h
  unfold Fv.size at c
  exact ⟨a, b, fun l hl => by have := le_lens hl; omega, fun o ho => by have := le_lens (ls := tks F.os) (List.mem_map.2 ⟨o, ho, rfl⟩); omega⟩
theorem sh_few {F K : Fv} {m : Int} (s : ShK F K m) (hs : F.Few) (hl : F.cs.length = F.cn) (ho : F.os.length = F.on) : K.Mid ∧ (∀ l ∈ K.cs, l.length ≤ 1000) ∧ ∀ o ∈ K.os, o.2.length ≤ 1000 := by
  obtain ⟨⟨s1, s2, s3, s4⟩, s5, s6⟩ := s
  obtain ⟨h1, h2, h3, h4⟩ := hs
  have a : ∀ l ∈ K.cs, l.length ≤ 1000 := fun l hl => by
    rw [s3] at hl
    obtain ⟨j, _, rfl⟩ := List.mem_map.1 hl
    exact cg_len_le h3 _
  have b : ∀ o ∈ K.os, o.2.length ≤ 1000 := fun o ho => by
    rw [s4] at ho
    obtain ⟨z, hz, rfl⟩ := List.mem_map.1 ho
    exact h4 z hz
  have k1 : K.cs.length = K.cn := by rw [s3, shCs_len, hl, s5]
  have k2 : K.os.length = K.on := by rw [s4]; simp [shOs]; omega
  exact ⟨Fv.Few.mid ⟨by omega, by omega, a, b⟩ k1 k2, a, b⟩
set_option maxRecDepth 100000 in
set_option maxHeartbeats 8000000 in
theorem shift_few (F : Fv) (m : Int) (w : World) (hF : F.At w) (hs : F.Few) (rt : F.Rt) (hm1 : -9223372036854775808 ≤ m) (hm2 : m ≤ 9223372036854775807) :
    Calls Try.prog 12 #[F.v, .int .i64 m] w fun e w' => ShOut F m w.heap.size e w' ∧ Hid (Below w.heap.size w w') := by
  have hok := rt.okm (hs.mid hF.core.len hF.odd.len)
  obtain ⟨ri, hri⟩ : ∃ r : Bool, r = true ↔ InR m := by classical exact ⟨decide _, decide_eq_true_iff⟩
  have HI := Lib.hid hri
  have CI := Lib.hid (fun W => inr_any m W ri hri)
  have CR := Lib.hid (fun W (h : F.At W) => right_mid F W h (hs.mid hF.core.len hF.odd.len) true ⟨fun _ => rt, fun _ => rfl⟩)
  have hN : F.N = (F.cn : Int) := by
    rcases rt.meas with ⟨a, _, c⟩ | ⟨_, a, _⟩
    · omega
    · exact a
  have CT := Lib.hid (fun W (j : Int) bf (h : F.At W) hb h1 h2 => tell31_any F j bf W h hok hb h1 h2)
  obtain ⟨P, N, co, cn, cc, oo, on, oc, cs, os⟩ := F
  obtain rfl : N = (cn : Int) := hN
  have HF : Hid (Fv.At ⟨P, (cn : Int), co, cn, cc, oo, on, oc, cs, os⟩ w) := Lib.hid hF
  have HOK : Hid (Fv.Ok ⟨P, (cn : Int), co, cn, cc, oo, on, oc, cs, os⟩) := Lib.hid hok
  have HRT : Hid (Fv.Rt ⟨P, (cn : Int), co, cn, cc, oo, on, oc, cs, os⟩) := Lib.hid rt
  have HSM : Hid (Fv.Few ⟨P, (cn : Int), co, cn, cc, oo, on, oc, cs, os⟩) := Lib.hid hs
  have LC : Hid (cs.length = cn) := Lib.hid hF.core.len
  have LO : Hid (os.length = on) := Lib.hid hF.odd.len
  have cn1 : cn ≤ 12 := hs.1
  have on1 : on ≤ 8 := hs.2.1
  have CR : Hid (∀ W, Fv.At ⟨P, (cn : Int), co, cn, cc, oo, on, oc, cs, os⟩ W → Calls Try.prog 18 #[.agg #[.int .i64 P, .int .i64 (cn : Int), .slice co cn cc, .slice oo on oc]] W fun e w' => e = .returned (.int .i64 0) ∧ Below W.heap.size W w') := CR
  clear hF hs rt hok hri
  obtain ⟨b, hb⟩ : ∃ b, w.heap.size = b := ⟨_, rfl⟩
  obtain ⟨wb, hwb⟩ : ∃ z, ((w.alloc (.cells #[.int .i64 P, .int .i64 (cn : Int), .slice co cn cc, .slice oo on oc] 25)).alloc (.cells #[.int .i64 0, .int .i64 0, .slice none 0 0, .slice none 0 0] 25)).alloc (.cells #[.int .i64 0] 29) = z := ⟨_, rfl⟩
  have KB : Hid (Below w.heap.size w wb) := Lib.hid (by rw [← hwb]; exact (((Below.refl _ w).alloc (Nat.le_refl _) _).alloc (by simp) _).alloc (by simp; omega) _)
  have B0 : Hid (wb.heap[b]? = some (.cells #[.int .i64 P, .int .i64 (cn : Int), .slice co cn cc, .slice oo on oc] 25 (0, 0))) := Lib.hid (by rw [← hwb]; exact (Below.heap_alloc _ _ _ (by simp; omega)).trans ((Below.heap_alloc _ _ _ (by simp; omega)).trans (heap_at hb)))
  obtain ⟨r, hr'⟩ : ∃ z, b + 1 = z := ⟨_, rfl⟩
  obtain ⟨d, hd'⟩ : ∃ z, r + 1 = z := ⟨_, rfl⟩
  have B1 : Hid (wb.heap[r]? = some (.cells #[.int .i64 0, .int .i64 0, .slice none 0 0, .slice none 0 0] 25 (0, 0))) := Lib.hid (by rw [← hwb]; exact (Below.heap_alloc _ _ _ (by simp; omega)).trans (heap_at (by simp; omega)))
  have B2 : Hid (wb.heap[d]? = some (.cells #[.int .i64 0] 29 (0, 0))) := Lib.hid (by rw [← hwb]; exact heap_at (by simp; omega))
  have HBL : Hid (w.heap.size ≤ b) := Lib.hid (by omega)
  show Calls Try.prog 12 #[.agg #[.int .i64 P, .int .i64 (cn : Int), .slice co cn cc, .slice oo on oc], .int .i64 m] w _
  refine (callsIn_wide (n := 3)).1 ?_
  refine callsIn_of_wp_marks Try.func12 rfl trivial ?_ rfl
  simp only [Try.ntmps12, List.size_toArray, List.length_cons, List.length_nil, Nat.reduceAdd, Nat.reduceSub, Array.replicate_succ, Array.replicate_zero, List.push_toArray, List.append_toArray, List.nil_append, List.cons_append]
  refine wpIn_wide.2 ?_
  go_upto_region 1 with fail
  try rw [hwb]
  try rw [hb]
  try rw [hr']
  try rw [hd']
  have HRD : Hid (b < r ∧ r < d) := Lib.hid (by omega)
  clear hwb hb hr' hd'
  go_wp2_with fail
  (with_reducible refine (CI.out _).mono ?_)
  rintro e w1 ⟨rfl, rfl⟩
  cases ri
  · have HNI : Hid (¬ InR m) := Lib.hid (fun z => by have := HI.out.2 z; cases this)
    have r0 := cell_block B1.out 0
    have r1 := cell_block B1.out 1
    have r2 := cell_block B1.out 2
    have r3 := cell_block B1.out 3
    have s0 := cell_block B2.out 0
    have f0 := free_blk B1.out 0
    have f1 := free_blk B1.out 1
    have f2 := free_blk B1.out 2
    have f3 := free_blk B1.out 3
    have g0 := free_blk B2.out 0
    have ne1 : ¬ d = r := by have := HRD.out; omega
    have ne2 : ¬ r = d := by have := HRD.out; omega
    go_wp2_with fail
    have RP := Lib.hid (res_put B1.out B2.out ne2 KB.out (by have := HBL.out; have := HRD.out; omega) (by have := HBL.out; have := HRD.out; omega) (.int .i64 0) (.int .i64 0) (.slice none 0 0) (.slice none 0 0) (.int .i64 2))
    obtain ⟨we, hwe⟩ : ∃ we, ((((wb.setCell ⟨r, 0, none⟩ (.int .i64 0)).setCell ⟨r, 1, none⟩ (.int .i64 0)).setCell ⟨r, 2, none⟩ (.slice none 0 0)).setCell ⟨r, 3, none⟩ (.slice none 0 0)).setCell ⟨d, 0, none⟩ (.int .i64 2) = we := ⟨_, rfl⟩
    rw [hwe] at RP ⊢
    clear r0 r1 r2 r3 s0 f0 f1 f2 f3 g0 hwe
    have r0 := cell_block RP.out.1 0
    have r1 := cell_block RP.out.1 1
    have r2 := cell_block RP.out.1 2
    have r3 := cell_block RP.out.1 3
    have s0 := cell_block RP.out.2.1 0
    exact ⟨.tuple #[.agg #[.int .i64 0, .int .i64 0, .slice none 0 0, .slice none 0 0], .int .i64 2], by simp [results, Try.results12, go_sem, r0, r1, r2, r3, s0], .inl ⟨HNI.out, rfl⟩, Lib.hid RP.out.2.2.1⟩
  · have HIN : Hid (InR m) := Lib.hid (HI.out.1 (by first | rfl | trivial))
    obtain ⟨i1, i2⟩ := HIN.out
    have c0 := cell_block B0.out 0
    have c1 := cell_block B0.out 1
    have c2 := cell_block B0.out 2
    have c3 := cell_block B0.out 3
    go_wp2_with fail
    (with_reducible refine (CR.out _ (HF.out.keep KB.out)).mono ?_)
    rintro e w2 ⟨rfl, q⟩
    have KB2 := Lib.hid (KB.out.trans (q.mono KB.out.size))
    have B0b := Lib.hid (heap_keep B0.out q)
    have B1b := Lib.hid (heap_keep B1.out q)
    have B2b := Lib.hid (heap_keep B2.out q)
    clear q c0 c1 c2 c3 KB B0 B1 B2 CR CI
    obtain ⟨g, hg⟩ : ∃ z, w2.heap.size = z := ⟨_, rfl⟩
    obtain ⟨w3, hw3⟩ : ∃ z, w2.alloc (.cells #[.int .i64 P, .int .i64 (cn : Int), .slice none 0 0, .slice none 0 0] 25) = z := ⟨_, rfl⟩
    have K3 : Below w2.heap.size w2 w3 := by rw [← hw3]; exact (Below.refl _ _).alloc (Nat.le_refl _) _
    have HG3 : Hid (w3.heap[g]? = some (.cells #[.int .i64 P, .int .i64 (cn : Int), .slice none 0 0, .slice none 0 0] 25 (0, 0))) := Lib.hid (by rw [← hw3]; exact heap_at hg)
    have KB3 := Lib.hid (KB2.out.trans (K3.mono KB2.out.size))
    have B0c := Lib.hid (heap_keep B0b.out K3)
    have B1c := Lib.hid (heap_keep B1b.out K3)
    have B2c := Lib.hid (heap_keep B2b.out K3)
    have HGP : Hid (d < g) := Lib.hid (by have := (Array.getElem?_eq_some_iff.1 B2b.out).1; omega)
    have HWX := Lib.hid hw3
    have HGG := Lib.hid hg
    clear hw3 hg
    have c0 := cell_block B0b.out 0
    have c1 := cell_block B0b.out 1
    have c2 := cell_block B0b.out 2
    have c3 := cell_block B0b.out 3
    go_upto_region 6 with fail
    rw [HWX.out, HGG.out]
    clear HWX HGG K3 KB2 B0b B1b B2b c0 c1 c2 c3
    have c0 := cell_block B0c.out 0
    have c1 := cell_block B0c.out 1
    have c2 := cell_block B0c.out 2
    have c3 := cell_block B0c.out 3
    obtain ⟨x, hx⟩ : ∃ z, w3.heap.size = z := ⟨_, rfl⟩
    have CS := Lib.hid (sets_any (-m) (cn : Int) 31 #[.pointer (some ⟨b, 0, none⟩)] w3)
    rw [hx] at CS
    go_wp2_with fail
    (with_reducible refine CS.out.mono ?_)
    rintro e W0 ⟨rfl, HXY, q⟩
    have HGX : Hid (g < x) := Lib.hid (by have := (Array.getElem?_eq_some_iff.1 HG3.out).1; omega)
    have KX : Hid (Below w3.heap.size w3 W0) := Lib.hid (by rw [hx]; exact q.out)
    have KB4 := Lib.hid (KB3.out.trans (KX.out.mono KB3.out.size))
    have B0d := Lib.hid (heap_keep B0c.out KX.out)
    have B1d := Lib.hid (heap_keep B1c.out KX.out)
    have B2d := Lib.hid (heap_keep B2c.out KX.out)
    have HGd := Lib.hid (heap_keep HG3.out KX.out)
    obtain ⟨n₁, hn1⟩ : ∃ z, W0.heap.size = z := ⟨_, rfl⟩
    have HSX : Hid (n₁ = x + 3) := Lib.hid (by rw [← hn1]; exact HXY.out.2.2.2)
    have HN1 := Lib.hid hn1
    have HNW : Hid (w.heap.size ≤ n₁) := Lib.hid (by rw [← hn1]; exact KB4.out.size)
    clear q hx CS c0 c1 c2 c3 KX KB3 B0c B1c B2c HG3 hn1
    have HSH : Hid (ShW ⟨P, (cn : Int), co, cn, cc, oo, on, oc, cs, os⟩ w W0 b r d g n₁ (.slice none 0 0) (.slice none 0 0)) := Lib.hid ⟨KB4.out, by have := HN1.out; omega, B0d.out, B1d.out, B2d.out, HGd.out, HBL.out, HRD.out.1, HRD.out.2, HGP.out, by have := HGX.out; have := HSX.out; omega⟩
    go_wp2_with fail
    refine (wpIn_wide (n := 3)).1 ?_
    refine range_rel rfl (by omega) (gf := 52) (lb := #[.pointer (some ⟨x + 1, 0, none⟩), .pointer (some ⟨x + 2, 0, none⟩), .pointer (some ⟨x, 0, none⟩)]) rfl trivial (enters_of Try.func52 (by kernel_rfl) rfl)
      (sets_seq31 (cg cs P (cn : Int)) (fun j => Fit (cg cs P (cn : Int) j)) (-m) cn b w.heap.size n₁ g x (x + 1) (x + 2) W0 (by have := HN1.out; have := HNW.out; omega) (by have := HN1.out; omega) ⟨by omega, by omega, by omega⟩
        (fun W' j k kn h1 h2 => by
          have h := CT.out W' j b (HF.out.keep (KB4.out.trans ((k.below.mono (Nat.le_refl _))))) (k.at (by have := HSX.out; have := HGX.out; have := HGP.out; have := HRD.out; omega) (by have := HGP.out; have := HRD.out; omega) B0d.out) (by omega) (by omega)
          exact h)
        (pr_four HGd.out) (by have := HSX.out; have := HGX.out; omega) ⟨by have := HSX.out; omega, by have := HGX.out; omega⟩ ⟨by have := HSX.out; omega, by have := HGX.out; omega⟩ ⟨by have := HSX.out; omega, by have := HGX.out; omega⟩ HXY.out.1 HXY.out.2.1 HXY.out.2.2.1)
      (fun p q => p.trans q) (kz_put (by have := HN1.out; have := HNW.out; omega) (by have := HN1.out; omega) (by have := HSX.out; have := HGX.out; omega)) (Below.refl _ _) (fun _ => rfl)
      (ShI ⟨P, (cn : Int), co, cn, cc, oo, on, oc, cs, os⟩ m w b r d g n₁) (ShX ⟨P, (cn : Int), co, cn, cc, oo, on, oc, cs, os⟩ m w r d) (by rw [HN1.out]; exact shI_own ⟨P, (cn : Int), co, cn, cc, oo, on, oc, cs, os⟩ m w b r d g n₁) (fun c => by rw [HN1.out]; exact shX_own ⟨P, (cn : Int), co, cn, cc, oo, on, oc, cs, os⟩ m w r d n₁ HNW.out (by have := HSX.out; have := HGX.out; have := HGP.out; have := HRD.out; omega) (by have := HSX.out; have := HGX.out; have := HGP.out; omega) c)
      ⟨.slice none 0 0, Nat.zero_le _, HSH.out, ⟨rfl, [], World.ownsRow_nil _ _ _ _, fun i h => absurd h (Nat.not_lt_zero i)⟩⟩
      (ShA (cg cs P (cn : Int)) (fun j => Fit (cg cs P (cn : Int) j)) n₁ g (-m) cn (fun z => { tmps := #[.agg #[.int .i64 P, .int .i64 (cn : Int), .slice co cn cc, .slice oo on oc], .int .i64 m, .pointer (some ⟨b, 0, none⟩), undef, .pointer (some ⟨r, 0, none⟩), .pointer (some ⟨d, 0, none⟩), .pointer (some ⟨g, 0, none⟩), z.1, .int .i64 z.2, undef, undef, .int .i64 m, .bool true, .bool false, undef, .agg #[.int .i64 P, .int .i64 (cn : Int), .slice co cn cc, .slice oo on oc], .int .i64 0, .bool false, undef, .pointer (some ⟨b, 0, none⟩), .int .i64 P, .pointer (some ⟨b, 1, none⟩), .int .i64 (cn : Int), .agg #[.int .i64 P, .int .i64 (cn : Int), .slice none 0 0, .slice none 0 0], .int .i64 m, .int .i64 (-m), .pointer (some ⟨b, 1, none⟩), .int .i64 (cn : Int), .func (.func 31) #[] #[.pointer (some ⟨b, 0, none⟩)], .func (.func 52) #[] #[.pointer (some ⟨x + 1, 0, none⟩), .pointer (some ⟨x + 2, 0, none⟩), .pointer (some ⟨x, 0, none⟩)], z.1, .int .i64 z.2, undef, undef, undef, undef, undef, undef, undef, undef, undef, undef, undef, undef, undef, undef, undef, undef, undef, undef, undef, undef, undef, undef, undef, undef, undef, undef, undef, undef, undef, undef, undef, undef, undef, undef, undef, undef, undef, undef, undef, undef, undef], defers := [] })) (fun s x a' => shA_own s x a') ?assign ?body ?done ?stop
    case assign =>
      rintro lp s z W K hI0 hR0 hK
      have HI0 := Lib.hid hI0
      have HR0 := Lib.hid hR0
      clear hI0 hR0
      unfold enc2
      gi_wp2
      exact hK _ _ ((KeepsOthers.refl _).from _) (Kz.refl _ _ _ _) HI0.out ⟨rfl, HR0.out.1, HR0.out.2.1⟩
    case body =>
      rintro lp s z a' W hlp hr hI hA
      obtain ⟨vc, hsle, hw, hco⟩ := hI
      obtain ⟨ha, hlt, hto⟩ := hA
      subst ha
      obtain ⟨xs, hown, hinn⟩ := hco.row
      have HWB := Lib.hid hw
      have HOWN := Lib.hid hown
      have HINN := Lib.hid hinn
      have hlt : s < cn := hlt
      have HTL : Hid (((shCs cs P (cn : Int) m).take s).length = s) := Lib.hid hco.len
      obtain ⟨v, k⟩ := z
      clear hlp hr hsle hw hco hown hinn
      have hsc : s < cs.length := by rw [LC.out]; exact hlt
      rcases hto with ⟨ho, hk, hrow⟩ | ⟨ho, hk, hv⟩
      · dsimp only at hk hrow
        subst hk
        obtain ⟨ao, nn, nc, rfl⟩ : ∃ ao nn nc, v = .slice ao nn nc := by
          obtain ⟨a1, a2, a3, _⟩ := own_sp rfl hrow
          exact ⟨_, _, _, a3⟩
        have HROW := Lib.hid hrow
        clear ho hrow
        have p2 : W.cell? ⟨g, 2, none⟩ = some vc := cell_block HWB.out.g_ 2
        have q2 : W.frozen? ⟨g, 2, none⟩ = false := free_blk HWB.out.g_ 2
        obtain ⟨i0, hi0, hz0, hz1, hz2⟩ := info_parts info34s
        have HI3 := Lib.hid hi0
        have HZ0 := Lib.hid hz0
        have HZ1 := Lib.hid hz1
        have HZ2 := Lib.hid hz2
        clear hi0 hz0 hz1 hz2
        gi_wp2_with (gi_at_builtin; refine wpListIn_append_own _ rfl _ _ 22 rfl n₁ 34 i0 (.slice none 0 0) 1 24 Try.underlying22 HI3.out HZ0.out HZ1.out HZ2.out rfl (by decide) _ _ _ rfl (keepB HOWN.out ((Below.refl _ _).alloc (Nat.le_refl _) _)) ⟨W.heap.size, 0, none⟩ 1 1 [.slice ao nn nc] rfl rfl (World.news_of_block (cs := #[.slice ao nn nc]) (t := 34) (fr := (0, 0)) (World.alloc_heap_new W _)) (by intro y hy; simp at hy; subst hy; rfl) (by unfold maxLen; omega) (by omega) (by have := HWB.out.sz; simp; omega) ?_; intro v' w8 hown' hgrow _; obtain ⟨g', cap', rfl⟩ := ownsRow_succ hown'; have HA8 := Lib.hid ((HWB.out.keep ((Below.refl _ W).alloc (Nat.le_refl _) (.cells #[.slice ao nn nc] 34))).grown hgrow (fun r e => (HOWN.out.lt r e).1)); have HN8 := Lib.hid hown'; have HG8 := Lib.hid hgrow; have p2' : w8.cell? ⟨g, 2, none⟩ = some vc := cell_block HA8.out.g_ 2; have q2' : w8.frozen? ⟨g, 2, none⟩ = false := free_blk HA8.out.g_ 2; clear hown' hgrow)
        have HPU := Lib.hid (HA8.out.put2 (.slice (some ⟨g', 0, none⟩) (s + 1) cap'))
        have HCN : Hid (CoOwn (w8.setCell ⟨g, 2, none⟩ (.slice (some ⟨g', 0, none⟩) (s + 1) cap')) n₁ (.slice (some ⟨g', 0, none⟩) (s + 1) cap') (s + 1) ((shCs cs P (cn : Int) m).take (s + 1))) := Lib.hid (by
          have ta := keepB HOWN.out ((Below.refl _ W).alloc (Nat.le_refl _) (.cells #[.slice ao nn nc] 34))
          have off : Off (W.alloc (.cells #[.slice ao nn nc] 34)) n₁ 50 vc.ownBlock := fun q e => by
            obtain ⟨cur, t⟩ := own_typed ta e
            exact .inr ⟨cur, 34, t, by decide⟩
          have mv : ∀ {u : Value} {l : List Sp}, W.ownsRow n₁ 50 2 u l.length (spCells l) → w8.ownsRow n₁ 50 2 u l.length (spCells l) := fun h => own_off (keepB h ((Below.refl _ W).alloc (Nat.le_refl _) _)) HG8.out off
          have c8 := co_snoc (u := .slice ao nn nc) (l := cg cs P (cn : Int) (-m + (s : Int))) HTL.out HN8.out (fun i hi => by obtain ⟨u, h1, h2⟩ := HINN.out i hi; exact ⟨u, h1, mv h2⟩) (mv HROW.out)
          have ht : (shCs cs P (cn : Int) m).take (s + 1) = (shCs cs P (cn : Int) m).take s ++ [cg cs P (cn : Int) (-m + (s : Int))] := by
            rw [List.take_succ_eq_append_getElem (by rw [shCs_len]; exact hsc), sh_get hsc]
          rw [ht]
          exact c8.grown (grown_cell w8 ⟨g, 2, none⟩ _) (fun q e => .inl (by cases e; exact HA8.out.hi)) (fun q e => .inl (by cases e; exact HA8.out.hi)))
        have HKZ := Lib.hid (kz_set (kz_app (Kz.refl w.heap.size n₁ g W) HOWN.out HNW.out (Nat.le_refl _) HWB.out.hi HWB.out.sz HG8.out) (by have := HBL.out; have := HRD.out; have := HGP.out; omega) 2 (.slice (some ⟨g', 0, none⟩) (s + 1) cap') (pr_four HPU.out.g_))
        have HKF := Lib.hid ((keeps_app HOWN.out HG8.out).trans ((KeepsOthers.setCell w8 ⟨g, 2, none⟩ (.slice (some ⟨g', 0, none⟩) (s + 1) cap')).from n₁))
        exact .inl ⟨rfl, by rw [HN1.out]; exact HKF.out, HKZ.out, _, hlt, HPU.out, HCN.out⟩
      · dsimp only at hk hv
        subst hk
        subst hv
        have HNR : Hid (¬ (shF ⟨P, (cn : Int), co, cn, cc, oo, on, oc, cs, os⟩ m).Rt) := Lib.hid (sh_unfit (F := ⟨P, (cn : Int), co, cn, cc, oo, on, oc, cs, os⟩) hsc LC.out ho)
        clear ho
        have r0 := cell_block HWB.out.b1 0
        have r1 := cell_block HWB.out.b1 1
        have r2 := cell_block HWB.out.b1 2
        have r3 := cell_block HWB.out.b1 3
        have s0 := cell_block HWB.out.b2 0
        have f0 := free_blk HWB.out.b1 0
        have f1 := free_blk HWB.out.b1 1
        have f2 := free_blk HWB.out.b1 2
        have f3 := free_blk HWB.out.b1 3
        have g0 := free_blk HWB.out.b2 0
        have ne1 : ¬ d = r := by have := HRD.out; omega
        have ne2 : ¬ r = d := by have := HRD.out; omega
        gi_wp2
        have RP := Lib.hid (res_put HWB.out.b1 HWB.out.b2 ne2 HWB.out.bw (by have := HBL.out; have := HRD.out; omega) (by have := HBL.out; have := HRD.out; omega) (.int .i64 0) (.int .i64 0) (.slice none 0 0) (.slice none 0 0) (.int .i64 20))
        exact .inr ⟨.ret, .inl ⟨rfl, rfl⟩, (((((KeepsOthers.setCell _ _ _).trans (KeepsOthers.setCell _ _ _)).trans (KeepsOthers.setCell _ _ _)).trans (KeepsOthers.setCell _ _ _)).trans (KeepsOthers.setCell _ _ _)).from _, rfl, HNR.out, RP.out.1, RP.out.2.1, RP.out.2.2.1⟩
    case done =>
      rintro D s W hD hS hI hK
      obtain ⟨vc, hsle, hw, hco⟩ := hI
      have hS : s = cn := hS
      rw [hS, List.take_of_length_le (by rw [shCs_len, LC.out]; exact Nat.le_refl _)] at hco
      have HWB := Lib.hid hw
      have HCO := Lib.hid hco
      have HKD := Lib.hid hK
      have HDD := Lib.hid hD
      clear hsle hw hco hK hD hS
      obtain ⟨n₂, hn2⟩ : ∃ z, W.heap.size = z := ⟨_, rfl⟩
      have HN2 : Hid (n₁ ≤ n₂ ∧ D < n₂ ∧ n₁ ≤ D) := Lib.hid (by
        have := (Array.getElem?_eq_some_iff.1 HKD.out).1
        have := HWB.out.sz; have := HDD.out; have := HN1.out; omega)
      have HWS := Lib.hid hn2
      clear hn2
      have c3 : W.cell? ⟨b, 3, none⟩ = some (.slice oo on oc) := cell_block HWB.out.b0 3
      try gi_wp2
      go_upto_region 13 with fail
      clear c3
      go_loopw [10, 45] (fun s10 ii wr => ∃ (i : Nat) (vo : Value) (vs : List Value), i ≤ on ∧ ii = .int .i64 i ∧ Hid (ShW ⟨P, (cn : Int), co, cn, cc, oo, on, oc, cs, os⟩ w wr b r d g n₁ vc vo) ∧ Hid (n₂ ≤ wr.heap.size ∧ wr.heap[D]? = some (.deferred (some []))) ∧ Hid (wr.ownsRow n₂ 52 2 vo i vs ∧ VsOd w vs (shOs (os.take i) m)) ∧ Hid (CoOwn wr n₁ vc cn (shCs cs P (cn : Int) m))) (fun s10 ii _ => on - (intOf ii).toNat)
      case atStart => exact ⟨0, .slice none 0 0, [], Nat.zero_le _, rfl, HWB, Lib.hid ⟨by have := HWS.out; omega, HKD.out⟩, Lib.hid ⟨World.ownsRow_nil _ _ _ _, ⟨rfl, fun i h => absurd h (Nat.not_lt_zero i)⟩⟩, HCO⟩
      case round =>
        clear HWB HCO HKD HWS
        obtain ⟨i, vo, vs, hi, rfl, HWB, HKD, HOD, HCO⟩ := hrel
        have i0 : (0 : Int) ≤ (i : Int) := by omega
        have c3 : wr.cell? ⟨b, 3, none⟩ = some (.slice oo on oc) := cell_block HWB.out.b0 3
        by_cases ilt : i < on
        · have i1 : (i : Int) < (on : Int) := by omega
          have hil : i < os.length := by rw [LO.out]; exact ilt
          obtain ⟨bo, po, e1, hc⟩ := (show OdAt w oo on oc os from HF.out.odd).here (by omega)
          obtain rfl : oo = some ⟨bo, po, none⟩ := e1
          obtain ⟨d1, ⟨ot, mt, dt, d2, d3⟩, d4, d5⟩ := hc i hil
          have HOG := Lib.hid (HRT.out.odd.good _ (List.getElem_mem hil))
          have HIX : Hid (¬ InR (os[i].1 + m) → ¬ (shF ⟨P, (cn : Int), co, cn, cc, (some ⟨bo, po, none⟩), on, oc, cs, os⟩ m).Rt) := Lib.hid (fun z => sh_index (F := ⟨P, (cn : Int), co, cn, cc, (some ⟨bo, po, none⟩), on, oc, cs, os⟩) hil z)
          have HTK : Hid (os.take (i + 1) = os.take i ++ [(os[i].1, os[i].2)]) := Lib.hid (List.take_succ_eq_append_getElem hil)
          obtain ⟨X, hX⟩ : ∃ z, os[i].1 = z := ⟨_, rfl⟩
          obtain ⟨LX, hLX⟩ : ∃ z, os[i].2 = z := ⟨_, rfl⟩
          rw [hX] at d1 d4 d5 HIX HTK
          rw [hX, hLX] at HOG
          rw [hLX] at d3 HTK
          have HD3 := Lib.hid d3
          have x1 : -1099511627776 ≤ X := HOG.out.2.1
          have x2 : X ≤ 1099511627776 := HOG.out.2.2
          have u0 := cell_keep d1 HWB.out.bw
          have u1 := cell_keep d2 HWB.out.bw
          have w1' : -9223372036854775808 ≤ X + m := by omega
          have w2' : X + m ≤ 9223372036854775807 := by omega
          clear hX hLX hc d1 d2 d3 d4 d5
          clear hil
          obtain ⟨q, hq⟩ : ∃ z, wr.heap.size = z := ⟨_, rfl⟩
          obtain ⟨wx, hwx⟩ : ∃ z, wr.alloc (.cells #[.int .i64 X, .slice ot mt dt] 52) = z := ⟨_, rfl⟩
          have KA : Below wr.heap.size wr wx := by rw [← hwx]; exact (Below.refl _ _).alloc (Nat.le_refl _) _
          have HQ : Hid (wx.heap[q]? = some (.cells #[.int .i64 X, .slice ot mt dt] 52 (0, 0))) := Lib.hid (by rw [← hwx]; exact heap_at hq)
          have HQ2 : Hid (n₂ ≤ q) := Lib.hid (by rw [← hq]; exact HKD.out.1)
          have HWB := Lib.hid (HWB.out.keep KA)
          have HCO := Lib.hid (HCO.out.keep KA)
          have HOD := Lib.hid (And.intro (keepB HOD.out.1 KA) HOD.out.2)
          have HKD : Hid (n₂ ≤ wx.heap.size ∧ wx.heap[D]? = some (.deferred (some []))) := Lib.hid ⟨Nat.le_trans HKD.out.1 KA.size, heap_keep HKD.out.2 KA⟩
          have HWX := Lib.hid hwx
          have HQX := Lib.hid hq
          clear hwx hq KA
          go_upto_region 15 with fail
          rw [HWX.out, HQX.out]
          clear HWX HQX u0 u1 c3
          have u0 := cell_block HQ.out 0
          have u1 := cell_block HQ.out 1
          obtain ⟨rx, hrx⟩ : ∃ r : Bool, r = true ↔ InR (X + m) := by classical exact ⟨decide _, decide_eq_true_iff⟩
          have CX := Lib.hid (inr_any (X + m) wx rx hrx)
          have HRX := Lib.hid hrx
          clear hrx
          go_wp2_with fail
          (with_reducible refine CX.out.mono ?_)
          rintro e wy ⟨rfl, rfl⟩
          clear CX
          cases rx
          · have HNR : Hid (¬ (shF ⟨P, (cn : Int), co, cn, cc, (some ⟨bo, po, none⟩), on, oc, cs, os⟩ m).Rt) := Lib.hid (HIX.out (fun z => by have := HRX.out.2 z; cases this))
            have r0 := cell_block HWB.out.b1 0
            have r1 := cell_block HWB.out.b1 1
            have r2 := cell_block HWB.out.b1 2
            have r3 := cell_block HWB.out.b1 3
            have s0 := cell_block HWB.out.b2 0
            have f0 := free_blk HWB.out.b1 0
            have f1 := free_blk HWB.out.b1 1
            have f2 := free_blk HWB.out.b1 2
            have f3 := free_blk HWB.out.b1 3
            have g0 := free_blk HWB.out.b2 0
            have ne1 : ¬ d = r := by have := HRD.out; omega
            have ne2 : ¬ r = d := by have := HRD.out; omega
            go_wp2_with fail
            have l1 : w.heap.size ≤ r := by have := HBL.out; have := HRD.out; omega
            have l2 : w.heap.size ≤ d := by have := HBL.out; have := HRD.out; omega
            have n2 : ¬ r = D := by have := HN2.out; have := HWB.out.hi; have := HWB.out.mid; have := HWB.out.rd; omega
            have n3 : ¬ d = D := by have := HN2.out; have := HWB.out.hi; have := HWB.out.mid; omega
            have RP := Lib.hid (res_put HWB.out.b1 HWB.out.b2 ne2 HWB.out.bw l1 l2 (.int .i64 0) (.int .i64 0) (.slice none 0 0) (.slice none 0 0) (.int .i64 20))
            have HKE := Lib.hid ((RP.out.2.2.2 D (Array.getElem?_eq_some_iff.1 HKD.out.2).1 (fun z => n2 z.symm) (fun z => n3 z.symm)).trans HKD.out.2)
            obtain ⟨we, hwe⟩ : ∃ we, ((((wx.setCell ⟨r, 0, none⟩ (.int .i64 0)).setCell ⟨r, 1, none⟩ (.int .i64 0)).setCell ⟨r, 2, none⟩ (.slice none 0 0)).setCell ⟨r, 3, none⟩ (.slice none 0 0)).setCell ⟨d, 0, none⟩ (.int .i64 20) = we := ⟨_, rfl⟩
            rw [hwe] at RP HKE ⊢
            clear r0 r1 r2 r3 s0 f0 f1 f2 f3 g0 hwe
            refine ⟨by simp, .inl ⟨_, _, rfl, run_takeDeferred HKE.out, ?_⟩⟩
            have X1 : (we.putObj D (.deferred none)).heap[r]? = _ := (World.putObj_heap_other n2).trans RP.out.1
            have X2 : (we.putObj D (.deferred none)).heap[d]? = _ := (World.putObj_heap_other n3).trans RP.out.2.1
            have r0 := cell_block X1 0
            have r1 := cell_block X1 1
            have r2 := cell_block X1 2
            have r3 := cell_block X1 3
            have s0 := cell_block X2 0
            exact ⟨.tuple #[.agg #[.int .i64 0, .int .i64 0, .slice none 0 0, .slice none 0 0], .int .i64 20], by simp [results, Try.results12, go_sem, r0, r1, r2, r3, s0], .inr (.inl ⟨HIN.out, HNR.out, rfl⟩), Lib.hid (RP.out.2.2.1.trans (belowK_b (w := W0) (by have := HN1.out; have := HNW.out; omega) we D _ _ HDD.out HKE.out rfl rfl))⟩
          · have p3 : wx.cell? ⟨g, 3, none⟩ = some vo := cell_block HWB.out.g_ 3
            have q3 : wx.frozen? ⟨g, 3, none⟩ = false := free_blk HWB.out.g_ 3
            obtain ⟨j0, hj0, hz0, hz1, hz2⟩ := info_parts info52s
            have HI3 := Lib.hid hj0
            have HZ0 := Lib.hid hz0
            have HZ1 := Lib.hid hz1
            have HZ2 := Lib.hid hz2
            clear hj0 hz0 hz1 hz2
            go_wp2_with (at_builtin; refine wpList_append_own _ rfl _ _ 23 rfl n₂ 52 j0 (.agg #[.int .i64 0, .slice none 0 0]) 2 32 Try.underlying23 HI3.out HZ0.out HZ1.out HZ2.out rfl (by decide) _ _ _ rfl (keepB HOD.out.1 ((Below.refl _ _).alloc (Nat.le_refl _) _)) ⟨wx.heap.size, 0, none⟩ 1 1 [.int .i64 (X + m), .slice ot mt dt] rfl rfl (World.news_of_block (cs := #[.int .i64 (X + m), .slice ot mt dt]) (t := 52) (fr := (0, 0)) (World.alloc_heap_new wx _)) (by intro y hy; simp at hy; rcases hy with rfl | rfl <;> rfl) (by unfold maxLen; omega) (by omega) (by have := HKD.out.1; simp; omega) ?_; intro v' w8 hown' hgrow _; obtain ⟨g', cap', rfl⟩ := ownsRow_succ hown'; have HA8 := Lib.hid ((HWB.out.keep ((Below.refl _ wx).alloc (Nat.le_refl _) (.cells #[.int .i64 (X + m), .slice ot mt dt] 52))).grown hgrow (fun y e => by have := (HOD.out.1.lt y e).1; have := HN2.out; omega)); have HN8 := Lib.hid hown'; have HG8 := Lib.hid hgrow; have p3' : w8.cell? ⟨g, 3, none⟩ = some vo := cell_block HA8.out.g_ 3; have q3' : w8.frozen? ⟨g, 3, none⟩ = false := free_blk HA8.out.g_ 3; clear hown' hgrow)
            have hgn : g < n₂ := by have := HWB.out.hi; have := HN2.out; omega
            have hgD : ¬ D = g := by have := HWB.out.hi; have := HN2.out; omega
            have HDK : Hid ((w8.setCell ⟨g, 3, none⟩ (.slice (some ⟨g', 0, none⟩) (i + 1) cap')).heap[D]? = some (.deferred (some []))) := Lib.hid ((Below.heap_setCell w8 ⟨g, 3, none⟩ _ D hgD).trans ((HG8.out.block D (by have := (Array.getElem?_eq_some_iff.1 HKD.out.2).1; simp; omega) (fun e => by have := (HOD.out.1.lt D e.symm).1; have := HN2.out; omega)).trans (heap_keep HKD.out.2 ((Below.refl _ wx).alloc (Nat.le_refl _) _))))
            have HSZ8 : Hid (n₂ ≤ w8.heap.size) := Lib.hid (by have a := HG8.out.size; simp at a; have := HKD.out.1; omega)
            have HOW : Hid ((w8.setCell ⟨g, 3, none⟩ (.slice (some ⟨g', 0, none⟩) (i + 1) cap')).ownsRow n₂ 52 2 (.slice (some ⟨g', 0, none⟩) (i + 1) cap') (i + 1) (vs ++ [.int .i64 (X + m), .slice ot mt dt])) := Lib.hid (own_off HN8.out (grown_cell w8 ⟨g, 3, none⟩ _) (fun y e => by cases e; exact .inl hgn))
            have HVS : Hid (VsOd w (vs ++ [.int .i64 (X + m), .slice ot mt dt]) (shOs (os.take (i + 1)) m)) := Lib.hid (by
              rw [HTK.out, show shOs (os.take i ++ [(X, LX)]) m = shOs (os.take i) m ++ [(X + m, LX)] by simp [shOs]]
              exact vsod_snoc HOD.out.2 HD3.out w1' w2')
            have HCN : Hid (CoOwn (w8.setCell ⟨g, 3, none⟩ (.slice (some ⟨g', 0, none⟩) (i + 1) cap')) n₁ vc cn (shCs cs P (cn : Int) m)) := Lib.hid (by
              have ta := keepB HOD.out.1 ((Below.refl _ wx).alloc (Nat.le_refl _) (.cells #[.int .i64 (X + m), .slice ot mt dt] 52))
              have off : ∀ e : Nat, 52 ≠ e → Off (wx.alloc (.cells #[.int .i64 (X + m), .slice ot mt dt] 52)) n₁ e vo.ownBlock := fun e ne y hy => by
                obtain ⟨cur, t⟩ := own_typed ta hy
                exact .inr ⟨cur, 52, t, ne⟩
              have c8 := (HCO.out.keep ((Below.refl _ wx).alloc (Nat.le_refl _) (.cells #[.int .i64 (X + m), .slice ot mt dt] 52))).grown HG8.out (off 34 (by decide)) (off 50 (by decide))
              exact c8.grown (grown_cell w8 ⟨g, 3, none⟩ _) (fun y e => .inl (by cases e; exact HWB.out.hi)) (fun y e => .inl (by cases e; exact HWB.out.hi)))
            refine ⟨⟨i + 1, _, _, by omega, by simp, Lib.hid (HA8.out.put3 _), Lib.hid ⟨by simpa using HSZ8.out, HDK.out⟩, Lib.hid ⟨HOW.out, HVS.out⟩, HCN⟩, by simp [intOf]; omega⟩
        · obtain rfl : on = i := by omega
          have hto : os.take on = os := List.take_of_length_le (by rw [LO.out]; exact Nat.le_refl _)
          have HOD : Hid (wr.ownsRow n₂ 52 2 vo on vs ∧ VsOd w vs (shOs os m)) := Lib.hid (by have := HOD.out; rw [hto] at this; exact this)
          obtain ⟨a1, k1, rfl, x1⟩ := HCO.out.vs
          obtain ⟨a2, k2, rfl, x2⟩ := own_od HOD.out.1 (by unfold shOs; rw [List.length_map]; exact LO.out) (HOD.out.2.keep HWB.out.bw)
          have HSK : Hid (ShK ⟨P, (cn : Int), co, cn, cc, oo, on, oc, cs, os⟩ ⟨P, (cn : Int), a1, cn, k1, a2, on, k2, shCs cs P (cn : Int) m, shOs os m⟩ m) := Lib.hid ⟨⟨rfl, rfl, rfl, rfl⟩, rfl, rfl⟩
          have HSMK := Lib.hid (sh_few (F := ⟨P, (cn : Int), co, cn, cc, oo, on, oc, cs, os⟩) (K := ⟨P, (cn : Int), a1, cn, k1, a2, on, k2, shCs cs P (cn : Int) m, shOs os m⟩) HSK.out HSM.out LC.out LO.out)
          have HKA : Hid (Fv.At ⟨P, (cn : Int), a1, cn, k1, a2, on, k2, shCs cs P (cn : Int) m, shOs os m⟩ wr) := Lib.hid ⟨HF.out.p1, HF.out.p2, HF.out.n1, HF.out.n2, x1, x2, ⟨fun l hl => by have := HSMK.out.2.1 l hl; omega, fun o ho => by have := HSMK.out.2.2 o ho; omega⟩⟩
          have HSZ9 : n₁ ≤ wr.heap.size := HWB.out.sz
          clear hto x1 x2 c3
          have p0 := cell_block HWB.out.g_ 0
          have p1 := cell_block HWB.out.g_ 1
          have p2 := cell_block HWB.out.g_ 2
          have p3 := cell_block HWB.out.g_ 3
          have l1 : w.heap.size ≤ r := by have := HBL.out; have := HRD.out; omega
          have l2 : w.heap.size ≤ d := by have := HBL.out; have := HRD.out; omega
          have n2 : ¬ r = D := by have := HN2.out; have := HWB.out.hi; have := HWB.out.mid; have := HWB.out.rd; omega
          have n3 : ¬ d = D := by have := HN2.out; have := HWB.out.hi; have := HWB.out.mid; omega
          have ne1 : ¬ d = r := by have := HRD.out; omega
          have ne2 : ¬ r = d := by have := HRD.out; omega
          by_cases rk : Fv.Rt ⟨P, (cn : Int), a1, cn, k1, a2, on, k2, shCs cs P (cn : Int) m, shOs os m⟩
          · have HRK := Lib.hid rk
            have CD := Lib.hid (done_ok ⟨P, (cn : Int), a1, cn, k1, a2, on, k2, shCs cs P (cn : Int) m, shOs os m⟩ wr HKA.out HSMK.out.1 rk)
            have CD : Hid (Calls Try.prog 27 #[.agg #[.int .i64 P, .int .i64 (cn : Int), .slice a1 cn k1, .slice a2 on k2]] wr fun e w' => ∃ G : Fv, e = .returned (.tuple #[G.v, .int .i64 0]) ∧ Hid (IsCan ⟨P, (cn : Int), a1, cn, k1, a2, on, k2, shCs cs P (cn : Int) m, shOs os m⟩ G) ∧ Hid (G.Own w' wr.heap.size) ∧ Hid (Below wr.heap.size wr w')) := CD
            clear rk
            go_wp2_with fail
            (with_reducible refine CD.out.mono ?_)
            rintro e wz ⟨G, rfl, HIC, HGO, q⟩
            have HWB := Lib.hid (HWB.out.keep q.out)
            have HKD := Lib.hid (heap_keep HKD.out.2 q.out)
            have HSZR : Hid (n₁ ≤ wr.heap.size) := Lib.hid HSZ9
            obtain ⟨GP, GN, gco, gcn, gcc, goo, gon, goc, gcs, gos⟩ := G
            clear q p0 p1 p2 p3 CD
            have r0 := cell_block HWB.out.b1 0
            have r1 := cell_block HWB.out.b1 1
            have r2 := cell_block HWB.out.b1 2
            have r3 := cell_block HWB.out.b1 3
            have s0 := cell_block HWB.out.b2 0
            have f0 := free_blk HWB.out.b1 0
            have f1 := free_blk HWB.out.b1 1
            have f2 := free_blk HWB.out.b1 2
            have f3 := free_blk HWB.out.b1 3
            have g0 := free_blk HWB.out.b2 0
            go_wp2_with fail
            have RP := Lib.hid (res_put HWB.out.b1 HWB.out.b2 ne2 HWB.out.bw l1 l2 (.int .i64 GP) (.int .i64 GN) (.slice gco gcn gcc) (.slice goo gon goc) (.int .i64 0))
            have HKE := Lib.hid ((RP.out.2.2.2 D (Array.getElem?_eq_some_iff.1 HKD.out).1 (fun z => n2 z.symm) (fun z => n3 z.symm)).trans HKD.out)
            have HOE := Lib.hid ((HGO.out.row (grown_four wz r (.int .i64 GP) (.int .i64 GN) (.slice gco gcn gcc) (.slice goo gon goc)) (by have := HSZR.out; have := HWB.out.hi; have := HWB.out.mid; have := HWB.out.rd; omega)).row (grown_cell _ ⟨d, 0, none⟩ (.int .i64 0)) (show d < wr.heap.size by have := HSZR.out; have := HWB.out.hi; have := HWB.out.mid; omega))
            obtain ⟨we, hwe⟩ : ∃ we, ((((wz.setCell ⟨r, 0, none⟩ (.int .i64 GP)).setCell ⟨r, 1, none⟩ (.int .i64 GN)).setCell ⟨r, 2, none⟩ (.slice gco gcn gcc)).setCell ⟨r, 3, none⟩ (.slice goo gon goc)).setCell ⟨d, 0, none⟩ (.int .i64 0) = we := ⟨_, rfl⟩
            rw [hwe] at RP HKE HOE ⊢
            clear r0 r1 r2 r3 s0 f0 f1 f2 f3 g0 hwe
            refine ⟨by simp, .inl ⟨_, _, rfl, run_takeDeferred HKE.out, ?_⟩⟩
            have X1 : (we.putObj D (.deferred none)).heap[r]? = _ := (World.putObj_heap_other n2).trans RP.out.1
            have X2 : (we.putObj D (.deferred none)).heap[d]? = _ := (World.putObj_heap_other n3).trans RP.out.2.1
            have r0 := cell_block X1 0
            have r1 := cell_block X1 1
            have r2 := cell_block X1 2
            have r3 := cell_block X1 3
            have s0 := cell_block X2 0
            exact ⟨.tuple #[.agg #[(.int .i64 GP), (.int .i64 GN), (.slice gco gcn gcc), (.slice goo gon goc)], (.int .i64 0)], by simp [results, Try.results12, go_sem, r0, r1, r2, r3, s0], .inr (.inr ⟨HIN.out, ⟨P, (cn : Int), a1, cn, k1, a2, on, k2, shCs cs P (cn : Int) m, shOs os m⟩, ⟨GP, GN, gco, gcn, gcc, goo, gon, goc, gcs, gos⟩, HSK.out, HRK.out, HIC.out, own_put (HOE.out.mono (by have := HSZR.out; have := HNW.out; omega)) HKE.out rfl, rfl⟩), Lib.hid (RP.out.2.2.1.trans (belowK_b (w := W0) (by have := HN1.out; have := HNW.out; omega) we D _ _ HDD.out HKE.out rfl rfl))⟩
          · have HNK : Hid (¬ (shF ⟨P, (cn : Int), co, cn, cc, oo, on, oc, cs, os⟩ m).Rt) := Lib.hid (fun z => rk ((rt_sh HSK.out).2 z))
            have CD := Lib.hid (done_no ⟨P, (cn : Int), a1, cn, k1, a2, on, k2, shCs cs P (cn : Int) m, shOs os m⟩ wr HKA.out HSMK.out.1 rk)
            have CD : Hid (Calls Try.prog 27 #[.agg #[.int .i64 P, .int .i64 (cn : Int), .slice a1 cn k1, .slice a2 on k2]] wr fun e w' => e = .returned (.tuple #[.agg #[.int .i64 0, .int .i64 0, .slice none 0 0, .slice none 0 0], .int .i64 20]) ∧ Hid (Below wr.heap.size wr w')) := CD
            clear rk
            go_wp2_with fail
            (with_reducible refine CD.out.mono ?_)
            rintro e wz ⟨rfl, q⟩
            have HWB := Lib.hid (HWB.out.keep q.out)
            have HKD := Lib.hid (heap_keep HKD.out.2 q.out)
            clear q p0 p1 p2 p3 CD
            have r0 := cell_block HWB.out.b1 0
            have r1 := cell_block HWB.out.b1 1
            have r2 := cell_block HWB.out.b1 2
            have r3 := cell_block HWB.out.b1 3
            have s0 := cell_block HWB.out.b2 0
            have f0 := free_blk HWB.out.b1 0
            have f1 := free_blk HWB.out.b1 1
            have f2 := free_blk HWB.out.b1 2
            have f3 := free_blk HWB.out.b1 3
            have g0 := free_blk HWB.out.b2 0
            go_wp2_with fail
            have RP := Lib.hid (res_put HWB.out.b1 HWB.out.b2 ne2 HWB.out.bw l1 l2 (.int .i64 0) (.int .i64 0) (.slice none 0 0) (.slice none 0 0) (.int .i64 20))
            have HKE := Lib.hid ((RP.out.2.2.2 D (Array.getElem?_eq_some_iff.1 HKD.out).1 (fun z => n2 z.symm) (fun z => n3 z.symm)).trans HKD.out)
            obtain ⟨we, hwe⟩ : ∃ we, ((((wz.setCell ⟨r, 0, none⟩ (.int .i64 0)).setCell ⟨r, 1, none⟩ (.int .i64 0)).setCell ⟨r, 2, none⟩ (.slice none 0 0)).setCell ⟨r, 3, none⟩ (.slice none 0 0)).setCell ⟨d, 0, none⟩ (.int .i64 20) = we := ⟨_, rfl⟩
            rw [hwe] at RP HKE ⊢
            clear r0 r1 r2 r3 s0 f0 f1 f2 f3 g0 hwe
            refine ⟨by simp, .inl ⟨_, _, rfl, run_takeDeferred HKE.out, ?_⟩⟩
            have X1 : (we.putObj D (.deferred none)).heap[r]? = _ := (World.putObj_heap_other n2).trans RP.out.1
            have X2 : (we.putObj D (.deferred none)).heap[d]? = _ := (World.putObj_heap_other n3).trans RP.out.2.1
            have r0 := cell_block X1 0
            have r1 := cell_block X1 1
            have r2 := cell_block X1 2
            have r3 := cell_block X1 3
            have s0 := cell_block X2 0
            exact ⟨.tuple #[.agg #[(.int .i64 0), (.int .i64 0), (.slice none 0 0), (.slice none 0 0)], (.int .i64 20)], by simp [results, Try.results12, go_sem, r0, r1, r2, r3, s0], .inr (.inl ⟨HIN.out, HNK.out, rfl⟩), Lib.hid (RP.out.2.2.1.trans (belowK_b (w := W0) (by have := HN1.out; have := HNW.out; omega) we D _ _ HDD.out HKE.out rfl rfl))⟩
    case stop =>
      rintro D c s W hD hX hK
      obtain ⟨rfl, hnr, hr1, hd1, hbel⟩ := hX
      have HKD := Lib.hid hK
      have HDD := Lib.hid hD
      have HNR := Lib.hid hnr
      have HR1 := Lib.hid hr1
      have HD1 := Lib.hid hd1
      have HBW := Lib.hid hbel
      clear hD hK hnr hr1 hd1 hbel
      gi_wp2
      refine ⟨by simp, .inl ⟨_, _, rfl, run_takeDeferred HKD.out, ?_⟩⟩
      have n2 : ¬ r = D := by have := HDD.out; have := HN1.out; have := HSX.out; have := HGX.out; have := HGP.out; have := HRD.out; omega
      have n3 : ¬ d = D := by have := HDD.out; have := HN1.out; have := HSX.out; have := HGX.out; have := HGP.out; omega
      have X1 : (W.putObj D (.deferred none)).heap[r]? = _ := (World.putObj_heap_other n2).trans HR1.out
      have X2 : (W.putObj D (.deferred none)).heap[d]? = _ := (World.putObj_heap_other n3).trans HD1.out
      have r0 := cell_block X1 0
      have r1 := cell_block X1 1
      have r2 := cell_block X1 2
      have r3 := cell_block X1 3
      have s0 := cell_block X2 0
      exact ⟨.tuple #[.agg #[.int .i64 0, .int .i64 0, .slice none 0 0, .slice none 0 0], .int .i64 20], by simp [results, Try.results12, go_sem, r0, r1, r2, r3, s0], .inr (.inl ⟨HIN.out, HNR.out, rfl⟩), Lib.hid (HBW.out.trans (belowK_b (w := W0) (by have := HN1.out; have := HNW.out; omega) W D _ _ HDD.out HKD.out rfl rfl))⟩
end
end Go.Proofs.Ytmjapbjjfhmohaa
