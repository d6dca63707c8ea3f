/- Ported. -/
import Derived.Test.YtaobhhgalkkmaaaEd
import Derived.Test.YtaobhhgalkkmaaaSp2
namespace Go.Proofs.Ytaobhhgalkkmaaa
set_option linter.unusedVariables false
set_option linter.unusedSimpArgs false
open Go.ChangeShapes Go.WideShapes Go.ChangeAt Go.RowKit
theorem mem_hull {l : List Sp} (g : Good l) {t : Int} (h : mem l t) : hullA l ≤ t ∧ t ≤ hullB l := by
  obtain ⟨s, hs, a, b⟩ := h
  exact ⟨Int.le_trans (hullA_le g hs) a, Int.le_trans b (le_hullB g hs)⟩
theorem gr_good' {F : Fv} (ok : F.Ok) {k : Int} (h : Ex F k) : Good (gr F k) := gr_good ok h.2.1
theorem gr_mem_hull {F : Fv} (ok : F.Ok) {k t : Int} (h : Ex F k) (m : mem (gr F k) t) : hullA (gr F k) ≤ t ∧ t ≤ hullB (gr F k) := mem_hull (gr_good' ok h) m
theorem good_one {a b : Int} (h : a ≤ b) (h1 : -1099511627776 ≤ a) (h2 : b ≤ 1099511627776) : Good [(a, b)] := ⟨h1, h, h2, trivial⟩
attribute [local go_sem] Oper.semAt_some
theorem gr_len {F : Fv} (h : F.Ok) (i : Int) : (gr F i).length ≤ 1000000 := by
  unfold gr
  cases e : exc F.os i with
  | some l =>
    obtain ⟨n, hn, h1, h2⟩ := exc_some e
    rw [← h2]; exact h.lenO _ (List.getElem_mem hn)
  | none =>
    show (cg F.cs F.P F.N i).length ≤ 1000000
    unfold cg
    split
    · rw [moved_length]
      unfold cset
      rw [List.getD_eq_getElem?_getD]
      cases e2 : F.cs[(i.fmod F.N).toNat]? with
      | none => simp
      | some l => exact h.lenC _ (List.mem_of_getElem? e2)
    · simp
def AtIs (F : Fv) (t i : Int) (ok : Bool) : Prop := (ok = true → Ex F i ∧ mem (gr F i) t) ∧ (ok = false → i = 0 ∧ ∀ k, Ex F k → ¬ mem (gr F k) t)
theorem at_none {F : Fv} (ok : F.Ok) {t : Int} (h : FromIs F t 0 false) : AtIs F t 0 false := ⟨(fun z => by cases z), fun _ => ⟨rfl, fun k e m => by have := (gr_mem_hull ok e m).2; have := (h.2 rfl).2 k e; omega⟩⟩
theorem at_miss {F : Fv} (rt : F.Rt) (ok : F.Ok) (hl : F.cs.length = F.cn) {t i : Int} (h : FromIs F t i true) (n : ¬ mem (gr F i) t) : AtIs F t 0 false := ⟨(fun z => by cases z), fun _ => ⟨rfl, fun k e m => by
  obtain ⟨a, b, c⟩ := h.1 rfl
  have q := gr_mem_hull ok e m
  have ik := c k e q.2
  rcases Int.lt_or_eq_of_le ik with z | rfl
  · have := ex_order rt ok hl a.1 e.1 z a.2.2 e.2.2; omega
  · exact n m⟩⟩
set_option maxRecDepth 8000 in
set_option maxHeartbeats 2000000 in
theorem at_any (F : Fv) (t : Int) (w : World) (hF : F.At w) (rt : F.Rt) (ok : F.Ok) (hc : F.cn ≤ 10000) (t1 : -9223372036854775808 ≤ t) (t2 : t ≤ 9223372036854775807) : Calls Try.prog 23 #[F.v, .int .i64 t] w fun e w' => IbOut (AtIs F t) e ∧ Hid (Below w.heap.size w w') := by
  have HRT := Lib.hid rt
  have HOK := Lib.hid ok
  clear rt ok
  obtain ⟨P, N, co, cn, cc, oo, on, oc, cs, os⟩ := F
  have LC : Hid (cs.length = cn) := Lib.hid hF.core.len
  have LO : Hid (os.length = on) := Lib.hid hF.odd.len
  have hmc : cn ≤ 9223372036854775807 := Nat.le_trans hF.core.le hF.core.top
  have hmo : on ≤ 9223372036854775807 := Nat.le_trans hF.odd.le hF.odd.top
  have hc10 : cn ≤ 10000 := hc
  have HRT : Hid (Fv.Rt ⟨P, N, co, cn, cc, oo, on, oc, cs, os⟩) := HRT
  have HOK : Hid (Fv.Ok ⟨P, N, co, cn, cc, oo, on, oc, cs, os⟩) := HOK
  have HLN : Hid ((Fv.cs ⟨P, N, co, cn, cc, oo, on, oc, cs, os⟩).length = Fv.cn ⟨P, N, co, cn, cc, oo, on, oc, cs, os⟩) := Lib.hid LC.out
  obtain ⟨b, hb⟩ : ∃ b, w.heap.size = b := ⟨_, rfl⟩
  obtain ⟨wb, hwb⟩ : ∃ wb, w.alloc (.cells #[.int .i64 P, .int .i64 N, .slice co cn cc, .slice oo on oc] 25) = wb := ⟨_, rfl⟩
  have HBB : Hid (Fbox ⟨P, N, co, cn, cc, oo, on, oc, cs, os⟩ w wb b) := Lib.hid (by rw [← hwb, ← hb]; exact fbox_new hF)
  have HF := Lib.hid hF
  clear hF
  have CF : Hid (∀ W, Fv.At ⟨P, N, co, cn, cc, oo, on, oc, cs, os⟩ W → Calls Try.prog 37 #[.agg #[.int .i64 P, .int .i64 N, .slice co cn cc, .slice oo on oc], .int .i64 t] W fun e w' => IbOut (FromIs ⟨P, N, co, cn, cc, oo, on, oc, cs, os⟩ t) e ∧ Hid (Below W.heap.size W w')) := Lib.hid (fun W h => from_any ⟨P, N, co, cn, cc, oo, on, oc, cs, os⟩ t W h HRT.out HOK.out hc10 t1 t2)
  have CE : Hid (∀ i W, Fv.At ⟨P, N, co, cn, cc, oo, on, oc, cs, os⟩ W → Calls Try.prog 38 #[.agg #[.int .i64 P, .int .i64 N, .slice co cn cc, .slice oo on oc], .int .i64 i] W fun e w' => ExOut ⟨P, N, co, cn, cc, oo, on, oc, cs, os⟩ i e w' ∧ Hid (Below W.heap.size W w')) := Lib.hid (fun i W h => exists_any ⟨P, N, co, cn, cc, oo, on, oc, cs, os⟩ i W h HOK.out)
  show Calls Try.prog 23 #[.agg #[.int .i64 P, .int .i64 N, .slice co cn cc, .slice oo on oc], .int .i64 t] w _
  go_enter Try.func23, Try.ntmps23
  go_upto_region 1 with fail
  clear hwb hb
  have e0 : wb.cell? ⟨b, 0, none⟩ = some (.int .i64 P) := HBB.out.c0
  have e1 : wb.cell? ⟨b, 1, none⟩ = some (.int .i64 N) := HBB.out.c1
  have e2 : wb.cell? ⟨b, 2, none⟩ = some (.slice co cn cc) := HBB.out.c2
  have e3 : wb.cell? ⟨b, 3, none⟩ = some (.slice oo on oc) := HBB.out.c3
  go_wp2_with fail
  (with_reducible refine (CF.out _ HBB.out.at_).mono ?_)
  rintro e w1 ⟨⟨i, ok, rfl, hf⟩, q⟩
  have HBB := Lib.hid (HBB.out.keep q.out)
  clear e0 e1 e2 e3 q
  have e0 : w1.cell? ⟨b, 0, none⟩ = some (.int .i64 P) := HBB.out.c0
  have e1 : w1.cell? ⟨b, 1, none⟩ = some (.int .i64 N) := HBB.out.c1
  have e2 : w1.cell? ⟨b, 2, none⟩ = some (.slice co cn cc) := HBB.out.c2
  have e3 : w1.cell? ⟨b, 3, none⟩ = some (.slice oo on oc) := HBB.out.c3
  have HFI := Lib.hid hf
  clear hf
  cases ok
  · have HZ : Hid (AtIs ⟨P, N, co, cn, cc, oo, on, oc, cs, os⟩ t 0 false) := Lib.hid (at_none HOK.out (by have := HFI.out; have e := (this.2 rfl).1; rw [e] at this; exact this))
    go_wp2
    go_returns
    exact ⟨⟨0, false, rfl, HZ.out⟩, Lib.hid HBB.out.bw⟩
  · have HEI := Lib.hid (HFI.out.1 rfl).1
    go_wp2_with fail
    (with_reducible refine (CE.out i _ HBB.out.at_).mono ?_)
    rintro e w2 ⟨⟨ao, n, c, L, ok2, rfl, hs, h1, h2⟩, q⟩
    have HBB := Lib.hid (HBB.out.keep q.out)
    clear e0 e1 e2 e3 q
    have hok : ok2 = true := h1.2 HEI.out
    subst hok
    have hL := h2 rfl
    subst hL
    obtain ⟨r, hr⟩ : ∃ r : Bool, r = true ↔ mem (gr ⟨P, N, co, cn, cc, oo, on, oc, cs, os⟩ i) t := by classical exact ⟨decide _, decide_eq_true_iff⟩
    have HR := Lib.hid hr
    have HH := Lib.hid (has_any ao n c (gr ⟨P, N, co, cn, cc, oo, on, oc, cs, os⟩ i) t w2 hs (gr_good' HOK.out HEI.out) (by rw [← hs.len]; exact Nat.le_trans (gr_len HOK.out i) (by decide)) r hr)
    clear hs h1 h2 hr
    go_wp2_with fail
    (with_reducible refine HH.out.mono ?_)
    rintro e w3 ⟨rfl, q⟩
    have HBB := Lib.hid (HBB.out.keep q)
    clear q HH
    cases r
    · have HZ : Hid (AtIs ⟨P, N, co, cn, cc, oo, on, oc, cs, os⟩ t 0 false) := Lib.hid (at_miss HRT.out HOK.out HLN.out HFI.out (fun z => by have := HR.out.2 z; cases this))
      go_wp2
      go_returns
      exact ⟨⟨0, false, rfl, HZ.out⟩, Lib.hid HBB.out.bw⟩
    · have HZ : Hid (AtIs ⟨P, N, co, cn, cc, oo, on, oc, cs, os⟩ t i true) := Lib.hid ⟨fun _ => ⟨HEI.out, HR.out.1 rfl⟩, fun z => by cases z⟩
      go_wp2
      go_returns
      exact ⟨⟨i, true, rfl, HZ.out⟩, Lib.hid HBB.out.bw⟩
theorem at_yes2 {F : Fv} (rt : F.Rt) (ok : F.Ok) (hl : F.cs.length = F.cn) {x i j : Int} {b : Bool} (e : Ex F i) (m : mem (gr F i) x) (h : AtIs F x j b) : j = i ∧ b = true := by
  cases b with
  | true =>
    obtain ⟨p, q⟩ := h.1 rfl
    have a := gr_mem_hull ok e m
    have c := gr_mem_hull ok p q
    rcases Int.lt_trichotomy j i with z | z | z
    · have := ex_order rt ok hl p.1 e.1 z p.2.2 e.2.2; omega
    · exact ⟨z, rfl⟩
    · have := ex_order rt ok hl e.1 p.1 z e.2.2 p.2.2; omega
  | false => exact absurd m ((h.2 rfl).2 i e)
end Go.Proofs.Ytaobhhgalkkmaaa
