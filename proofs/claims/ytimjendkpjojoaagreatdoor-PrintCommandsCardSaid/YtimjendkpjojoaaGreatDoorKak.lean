/- M6 in one. -/
import Derived.Test.YtimjendkpjojoaaGreatDoorKi
import Derived.Test.YtimjendkpjojoaaGreatDoorKaj
namespace Go.Proofs.YtimjendkpjojoaaGreatDoor
set_option linter.unusedVariables false
set_option linter.unusedSimpArgs false
open Go.ChangeShapes Go.WideShapes Go.ChangeAt Go.RowKit

namespace Lx
theorem begun_true (l : List Tk) (s : St) : (name l (begun l true s)).2.wrong ≠ 0 := by
  intro q
  have hb : (begun l true s).wrong = 0 := by
    by_cases y : (begun l true s).wrong = 0
    · exact y
    · exact absurd (((name_on l (begun l true s)).stay y).2.symm.trans q) y
  unfold name take at q
  rw [if_pos hb] at q
  by_cases k : isNm l s.at_ = true
  · unfold begun at hb
    dsimp only at hb
    by_cases w : s.wrong = 0
    · rw [if_pos ⟨w, k, .inl rfl⟩] at hb; exact absurd hb (by decide)
    · rw [if_neg (fun e => w e.1)] at hb; exact w hb
  · rw [if_neg (by exact k)] at q; exact absurd (show (110 : Int) = 0 from q) (by decide)
/-- part, whatever the depth. -/
def partX (l : List Tk) (k : Nat) (b : St) : Ex × St := if (name l b).2.wrong = 0 ∧ opN (name l b).1 ≠ 0 ∧ isMk l (name l b).2.at_ [40] = true then operands l (part l (k - 1)) (opN (name l b).1) (name l b).2 else (leaf (name l b).1, (name l b).2)
theorem part_eq (l : List Tk) (k : Nat) (s : St) : part l k s = partX l k (begun l (decide (k = 0)) s) := by
  unfold partX
  cases k with
  | zero => rw [if_neg (fun h => begun_true l s h.1)]; rfl
  | succ k => unfold part; rw [show decide (k + 1 = 0) = false from rfl]; rfl
end Lx
/-- What part holds on its way. -/
structure PtI (w0 W w : World) (rb b : Nat) (ao : Option Addr) (n c : Nat) (l : List Lx.Tk) (s : Lx.St) : Prop where
  rd : Rd w0 w rb ao n c l s
  gr : W.grownBy w (some rb)
  lo : W.heap.size = b
  ne : w0.heap.size ≤ b ∧ rb < b
  res : w.heap[b]? = some (.cells #[.int .u8 0, .string ⟨#[]⟩, .slice none 0 0, .slice none 0 0] 25 (0, 0))
theorem PtI.step {w0 W w w' : World} {rb b : Nat} {ao : Option Addr} {n c : Nat} {l : List Lx.Tk} {s s' : Lx.St} (h : PtI w0 W w rb b ao n c l s) (r : Rd w0 w' rb ao n c l s') (g : w.grownBy w' (some rb)) : PtI w0 W w' rb b ao n c l s' :=
  ⟨r, grown_trans h.gr g, h.lo, h.ne, blk_stay h.res g (by have := h.ne; omega)⟩
theorem PtI.keep {w0 W w w' : World} {rb b : Nat} {ao : Option Addr} {n c : Nat} {l : List Lx.Tk} {s : Lx.St} (h : PtI w0 W w rb b ao n c l s) (k : Below w.heap.size w w') : PtI w0 W w' rb b ao n c l s := h.step (h.rd.keep k) (grown_of_below k _)
theorem PtI.drew {w0 W w : World} {rb b : Nat} {ao : Option Addr} {n c : Nat} {l : List Lx.Tk} {s : Lx.St} (h : PtI w0 W w rb b ao n c l s) (k : Nat) : PtI w0 W (w.drewN k) rb b ao n c l s := h.keep (below_drewN (Below.refl _ _) k)
set_option maxRecDepth 20000 in
set_option maxHeartbeats 4000000 in
theorem part_step (w0 : World) (rb : Nat) (ao : Option Addr) (n c : Nat) (l : List Lx.Tk) (hB : Lx.TkB l) (hT : Tabn w0) (hW : Tabw w0) (k : Nat) (hk : k ≤ 40) (IH : k ≠ 0 → PartOk w0 rb ao n c l (k - 1)) : PartOk w0 rb ao n c l k := by
  intro W s h hs
  obtain ⟨b, hb⟩ : ∃ z, W.heap.size = z := ⟨_, rfl⟩
  obtain ⟨w1, hw1⟩ : ∃ z, W.alloc (.cells #[.int .u8 0, .string ⟨#[]⟩, .slice none 0 0, .slice none 0 0] 25) = z := ⟨_, rfl⟩
  have KA : Below W.heap.size W w1 := by rw [← hw1]; exact (Below.refl _ W).alloc (Nat.le_refl _) _
  have HI : Hid (PtI w0 W w1 rb b ao n c l s) := Lib.hid ⟨h.keep KA, grown_of_below KA _, hb, ⟨by have := h.bw.size; omega, by have := h.lt; omega⟩, by rw [← hw1, ← hb, al_new]⟩
  have HK := Lib.hid (kind_any w0 w1 rb ao n c l s HI.out.rd)
  have HPQ : Hid (Lx.PI (Lx.name l (Lx.begun l (decide (k = 0)) s)).2) := Lib.hid (Lx.begun_name l _ s hs)
  rw [Lx.part_eq]
  obtain ⟨BG, hBG⟩ : ∃ BG, Lx.begun l (decide (k = 0)) s = BG := ⟨_, rfl⟩
  rw [hBG] at HPQ ⊢
  have HBG := Lib.hid hBG
  have HNZ : Hid (k = 0 → (Lx.name l BG).2.wrong ≠ 0) := Lib.hid (fun e => by rw [← hBG, decide_eq_true e]; exact Lx.begun_true l s)
  have HTB := Lib.hid hB
  have HTT := Lib.hid hT
  have HTW := Lib.hid hW
  have HIH := Lib.hid IH
  have k0 : (0 : Int) ≤ (k : Int) := by omega
  have k1 : (k : Int) ≤ 40 := by omega
  have c3 := HI.out.rd.cells.2.2.2
  clear h KA hBG hB hT hW IH
  obtain ⟨pt, hpt⟩ : ∃ z, s.parts = z := ⟨_, rfl⟩
  have hsI : (pt : Int) ≤ 2000 := by omega
  by_cases ca : s.wrong = 0
  · rw [ca] at c3
    by_cases cb : (Lx.tkAt l s.at_).1 = 1
    · rw [cb] at HK
      by_cases cd : k = 0 ∨ s.parts = 2000
      · have HSB : Hid (BG = ⟨s.at_, s.parts + 1, 111⟩) := Lib.hid (by
          rw [← HBG.out]; unfold Lx.begun; rw [if_pos ⟨ca, by unfold Lx.isNm; rw [cb]; rfl, by rcases cd with e | e; exact .inl (decide_eq_true e); exact .inr e⟩])
        clear HBG cb ca
        by_cases cz : k = 0
        · have cz1 : (40 : Int) < 41 - (k : Int) := by omega
          clear cd cz
          go_enter Tryz.func25, Tryz.ntmps25
          go_upto_region 1 with fail
          clear hw1 hb
          go_wp2_with fail
          (with_reducible refine HK.out.mono ?_)
          rintro e w2 ⟨rfl, m, rfl⟩
          have HI := Lib.hid (HI.out.drew m)
          have c4 := blk_free HI.out.rd.box 3
          go_upto_region 3 with fail
          have HG3 := Lib.hid (grow_cell (w1.drewN m) ⟨rb, 3, none⟩ (.int .i64 111))
          obtain ⟨w3, hw3⟩ : ∃ z, (w1.drewN m).setCell ⟨rb, 3, none⟩ (.int .i64 111) = z := ⟨_, rfl⟩
          have HR3 := Lib.hid (HI.out.rd.wrong 111)
          rw [hw3] at HR3 HG3 ⊢
          have HI := Lib.hid (HI.out.step HR3.out HG3.out)
          clear hw3 HR3 HG3 c3 c4 HK
          have c2 := HI.out.rd.cells.2.2.1
          have f2 := blk_free HI.out.rd.box 2
          dsimp only at c2
          rw [hpt] at c2
          go_upto_region 4 with fail
          have HG4 := Lib.hid (grow_cell w3 ⟨rb, 2, none⟩ (.int .i64 ((pt : Int) + 1)))
          have HR4 : Hid (Rd w0 (w3.setCell ⟨rb, 2, none⟩ (.int .i64 ((pt : Int) + 1))) rb ao n c l BG) := Lib.hid (by
            have := HI.out.rd.part (pt + 1)
            rw [HSB.out, hpt]
            exact this)
          obtain ⟨w4, hw4⟩ : ∃ z, w3.setCell ⟨rb, 2, none⟩ (.int .i64 ((pt : Int) + 1)) = z := ⟨_, rfl⟩
          rw [hw4] at HG4 HR4 ⊢
          have HI := Lib.hid (HI.out.step HR4.out HG4.out)
          clear hw4 HR4 HG4 c2 f2 HSB hpt
          have HN := Lib.hid (pname_any w0 w4 rb ao n c l BG HI.out.rd)
          have HWB := Lib.hid (Lx.name_B HTB.out BG)
          have HPX : Hid (Lx.partX l k BG = if (Lx.name l BG).2.wrong = 0 ∧ Lx.opN (Lx.name l BG).1 ≠ 0 ∧ Lx.isMk l (Lx.name l BG).2.at_ [40] = true then Lx.operands l (Lx.part l (k - 1)) (Lx.opN (Lx.name l BG).1) (Lx.name l BG).2 else (Lx.leaf (Lx.name l BG).1, (Lx.name l BG).2)) := Lib.hid rfl
          obtain ⟨⟨wd, sN⟩, hn⟩ : ∃ z, Lx.name l BG = z := ⟨_, rfl⟩
          rw [hn] at HN HWB HPX HPQ HNZ
          dsimp only at HN HWB HPX HPQ HNZ
          have HOP := Lib.hid (fun w5 (q : Tabw w5) => op_any ⟨wd.toArray⟩ w5 q)
          rw [show (⟨wd.toArray⟩ : ByteArray).data.toList = wd by simp] at HOP
          have HON := Lib.hid (opN_lt wd)
          obtain ⟨on, hon⟩ : ∃ z, Lx.opN wd = z := ⟨_, rfl⟩
          rw [hon] at HOP HON HPX
          obtain ⟨bd, hbd⟩ : ∃ z : ByteArray, ⟨wd.toArray⟩ = z := ⟨_, rfl⟩
          have HBD := Lib.hid hbd
          rw [hbd] at HN HOP
          clear hn hon hbd
          go_wp2_with fail
          (with_reducible refine HN.out.mono ?_)
          rintro e w5 ⟨rfl, HR5, HG5⟩
          have HI := Lib.hid (HI.out.step HR5.out HG5.out)
          have HOP := Lib.hid (HOP.out w5 (HTW.out.keep HI.out.rd.bw))
          clear HR5 HG5 HN
          go_wp2_with fail
          (with_reducible refine HOP.out.mono ?_)
          rintro e w6 ⟨rfl, rfl⟩
          clear HOP
          have c3 := HI.out.rd.cells.2.2.2
          by_cases ca : sN.wrong = 0
          · rw [ca] at c3
            have h30 : ((0 : Int) != 0) = false := rfl
            by_cases cb : on = 0
            · have HE : Hid (Lx.partX l k BG = (Lx.leaf wd, sN)) := Lib.hid (by rw [HPX.out, if_neg (fun e => e.2.1 cb)])
              subst cb
              rw [show decide ((0 : Nat) ≠ 0) = false from rfl]
              clear ca HPX
              have d0 := cell_blk HI.out.res 0
              have d1 := cell_blk HI.out.res 1
              have d2 := cell_blk HI.out.res 2
              have d3 := cell_blk HI.out.res 3
              have g0 := blk_free HI.out.res 0
              have g1 := blk_free HI.out.res 1
              have g2 := blk_free HI.out.res 2
              have g3 := blk_free HI.out.res 3
              go_wp2
              obtain ⟨wf, hwf⟩ : ∃ z, put4 w5 b (.int .u8 0) (.string bd) (.slice none 0 0) (.slice none 0 0) = z := ⟨_, rfl⟩
              have hwf' := hwf
              unfold put4 at hwf'
              rw [hwf']
              have XF := put4_on HI.out.res (.int .u8 0) (.string bd) (.slice none 0 0) (.slice none 0 0)
              have g := put4_grown w5 b (.int .u8 0) (.string bd) (.slice none 0 0) (.slice none 0 0)
              rw [hwf] at g XF
              have r0 := cell_blk XF 0
              have r1 := cell_blk XF 1
              have r2 := cell_blk XF 2
              have r3 := cell_blk XF 3
              refine bodyPost_ret (v := .agg #[.int .u8 0, .string bd, .slice none 0 0, .slice none 0 0]) (by simp [results, Tryz.results25, go_sem, r0, r1, r2, r3]) rfl ⟨⟨⟨0, bd, [], 0⟩, none, 0, 0, none, 0⟩, rfl, Lib.hid ?_, Lib.hid ?_, Lib.hid ?_⟩
              · rw [HE.out]; exact HI.out.rd.grown g (fun q e => by cases e; have := HI.out.ne; omega)
              · exact grown_new HI.out.gr g (Nat.le_of_eq HI.out.lo)
              · rw [HE.out]
                have hx := ex_leaf' (only (frB W.heap.size) wf) wd HWB.out
                rw [HBD.out] at hx
                exact hx.more (by omega)
            · rw [show decide (on ≠ 0) = true from decide_eq_true cb]
              have HM := Lib.hid (isMark_any w0 w5 rb ao n c l sN [40] HI.out.rd _ rfl)
              have HKK : Hid (k ≠ 0) := Lib.hid (fun e => HNZ.out e ca)
              cases cc : Lx.isMk l sN.at_ [40] with
              | false =>
                have HE : Hid (Lx.partX l k BG = (Lx.leaf wd, sN)) := Lib.hid (by rw [HPX.out, if_neg (fun e => by rw [cc] at e; exact absurd e.2.2 (by decide))])
                rw [cc] at HM
                clear ca HPX cc cb
                go_wp2_with fail
                (with_reducible refine HM.out.mono ?_)
                rintro e w7 ⟨rfl, m7, rfl⟩
                have HI := Lib.hid (HI.out.drew m7)
                obtain ⟨w8, hw8⟩ : ∃ z, w5.drewN m7 = z := ⟨_, rfl⟩
                rw [hw8] at HI ⊢
                clear hw8 c3 HM
                have d0 := cell_blk HI.out.res 0
                have d1 := cell_blk HI.out.res 1
                have d2 := cell_blk HI.out.res 2
                have d3 := cell_blk HI.out.res 3
                have g0 := blk_free HI.out.res 0
                have g1 := blk_free HI.out.res 1
                have g2 := blk_free HI.out.res 2
                have g3 := blk_free HI.out.res 3
                go_wp2
                obtain ⟨wf, hwf⟩ : ∃ z, put4 w8 b (.int .u8 0) (.string bd) (.slice none 0 0) (.slice none 0 0) = z := ⟨_, rfl⟩
                have hwf' := hwf
                unfold put4 at hwf'
                rw [hwf']
                have XF := put4_on HI.out.res (.int .u8 0) (.string bd) (.slice none 0 0) (.slice none 0 0)
                have g := put4_grown w8 b (.int .u8 0) (.string bd) (.slice none 0 0) (.slice none 0 0)
                rw [hwf] at g XF
                have r0 := cell_blk XF 0
                have r1 := cell_blk XF 1
                have r2 := cell_blk XF 2
                have r3 := cell_blk XF 3
                refine bodyPost_ret (v := .agg #[.int .u8 0, .string bd, .slice none 0 0, .slice none 0 0]) (by simp [results, Tryz.results25, go_sem, r0, r1, r2, r3]) rfl ⟨⟨⟨0, bd, [], 0⟩, none, 0, 0, none, 0⟩, rfl, Lib.hid ?_, Lib.hid ?_, Lib.hid ?_⟩
                · rw [HE.out]; exact HI.out.rd.grown g (fun q e => by cases e; have := HI.out.ne; omega)
                · exact grown_new HI.out.gr g (Nat.le_of_eq HI.out.lo)
                · rw [HE.out]
                  have hx := ex_leaf' (only (frB W.heap.size) wf) wd HWB.out
                  rw [HBD.out] at hx
                  exact hx.more (by omega)
              | true =>
                have HE : Hid (Lx.partX l k BG = Lx.operands l (Lx.part l (k - 1)) on sN) := Lib.hid (by rw [HPX.out, if_pos ⟨ca, cb, cc⟩])
                rw [cc] at HM
                clear ca HPX cc cb
                go_wp2_with fail
                (with_reducible refine HM.out.mono ?_)
                rintro e w7 ⟨rfl, m7, rfl⟩
                have HI := Lib.hid (HI.out.drew m7)
                obtain ⟨w8, hw8⟩ : ∃ z, w5.drewN m7 = z := ⟨_, rfl⟩
                rw [hw8] at HI ⊢
                clear hw8 c3 HM
                have HO := Lib.hid (operands_any w0 rb ao n c l HTB.out HTT.out (k - 1) (HIH.out HKK.out) (by omega) w8 on HON.out sN HI.out.rd HPQ.out)
                rw [show (40 : Int) - ((k - 1 : Nat) : Int) = 41 - (k : Int) by have := HKK.out; omega, show k - 1 + 2 = k + 1 by have := HKK.out; omega] at HO
                go_wp2_with fail
                (with_reducible refine HO.out.mono ?_)
                rintro e w9 ⟨⟨⟨zo, znm, znu, zk⟩, zan, znn, znc, zaa, zac⟩, rfl, HR9, HG9, HX9⟩
                have HLW := Lib.hid HI.out.lo
                have HS8 := Lib.hid HI.out.gr.size
                have HL8 := Lib.hid (Array.getElem?_eq_some_iff.1 HI.out.res).1
                have HI := Lib.hid (HI.out.step HR9.out HG9.out)
                clear HO HR9 HG9
                have d0 := cell_blk HI.out.res 0
                have d1 := cell_blk HI.out.res 1
                have d2 := cell_blk HI.out.res 2
                have d3 := cell_blk HI.out.res 3
                have g0 := blk_free HI.out.res 0
                have g1 := blk_free HI.out.res 1
                have g2 := blk_free HI.out.res 2
                have g3 := blk_free HI.out.res 3
                go_wp2
                obtain ⟨wf, hwf⟩ : ∃ z, put4 w9 b (.int .u8 zo) (.string znm) (.slice zan znn znc) (.slice zaa zk zac) = z := ⟨_, rfl⟩
                have hwf' := hwf
                unfold put4 at hwf'
                rw [hwf']
                have XF := put4_on HI.out.res (.int .u8 zo) (.string znm) (.slice zan znn znc) (.slice zaa zk zac)
                have g := put4_grown w9 b (.int .u8 zo) (.string znm) (.slice zan znn znc) (.slice zaa zk zac)
                rw [hwf] at g XF
                have r0 := cell_blk XF 0
                have r1 := cell_blk XF 1
                have r2 := cell_blk XF 2
                have r3 := cell_blk XF 3
                refine bodyPost_ret (v := .agg #[.int .u8 zo, .string znm, .slice zan znn znc, .slice zaa zk zac]) (by simp [results, Tryz.results25, go_sem, r0, r1, r2, r3]) rfl ⟨⟨⟨zo, znm, znu, zk⟩, zan, znn, znc, zaa, zac⟩, rfl, Lib.hid ?_, Lib.hid ?_, Lib.hid ?_⟩
                · rw [HE.out]; exact HI.out.rd.grown g (fun q e => by cases e; have := HI.out.ne; omega)
                · exact grown_new HI.out.gr g (Nat.le_of_eq HI.out.lo)
                · rw [HE.out]
                  refine HX9.out.sub (only_sub (fun q e lt => ⟨frB_le (by have := le_frB e; have := HS8.out; omega), g.block q lt (fun e' => ?_)⟩))
                  have := le_frB e
                  cases e'
                  have := HL8.out
                  omega
          · have HE : Hid (Lx.partX l k BG = (Lx.leaf wd, sN)) := Lib.hid (by rw [HPX.out, if_neg (fun e => ca e.1)])
            have h30 : (sN.wrong != 0) = true := by simpa using ca
            obtain ⟨xx, hxx⟩ : ∃ z, sN.wrong = z := ⟨_, rfl⟩
            rw [hxx] at c3 h30
            clear ca HPX hxx
            have d0 := cell_blk HI.out.res 0
            have d1 := cell_blk HI.out.res 1
            have d2 := cell_blk HI.out.res 2
            have d3 := cell_blk HI.out.res 3
            have g0 := blk_free HI.out.res 0
            have g1 := blk_free HI.out.res 1
            have g2 := blk_free HI.out.res 2
            have g3 := blk_free HI.out.res 3
            go_wp2
            obtain ⟨wf, hwf⟩ : ∃ z, put4 w5 b (.int .u8 0) (.string bd) (.slice none 0 0) (.slice none 0 0) = z := ⟨_, rfl⟩
            have hwf' := hwf
            unfold put4 at hwf'
            rw [hwf']
            have XF := put4_on HI.out.res (.int .u8 0) (.string bd) (.slice none 0 0) (.slice none 0 0)
            have g := put4_grown w5 b (.int .u8 0) (.string bd) (.slice none 0 0) (.slice none 0 0)
            rw [hwf] at g XF
            have r0 := cell_blk XF 0
            have r1 := cell_blk XF 1
            have r2 := cell_blk XF 2
            have r3 := cell_blk XF 3
            refine bodyPost_ret (v := .agg #[.int .u8 0, .string bd, .slice none 0 0, .slice none 0 0]) (by simp [results, Tryz.results25, go_sem, r0, r1, r2, r3]) rfl ⟨⟨⟨0, bd, [], 0⟩, none, 0, 0, none, 0⟩, rfl, Lib.hid ?_, Lib.hid ?_, Lib.hid ?_⟩
            · rw [HE.out]; exact HI.out.rd.grown g (fun q e => by cases e; have := HI.out.ne; omega)
            · exact grown_new HI.out.gr g (Nat.le_of_eq HI.out.lo)
            · rw [HE.out]
              have hx := ex_leaf' (only (frB W.heap.size) wf) wd HWB.out
              rw [HBD.out] at hx
              exact hx.more (by omega)
        · have cz1 : ¬ (40 : Int) < 41 - (k : Int) := by omega
          have cp : s.parts = 2000 := by rcases cd with e | e; exact absurd e cz; exact e
          have c2 := HI.out.rd.cells.2.2.1
          rw [cp] at c2
          clear cd cz cp
          go_enter Tryz.func25, Tryz.ntmps25
          go_upto_region 1 with fail
          clear hw1 hb
          go_wp2_with fail
          (with_reducible refine HK.out.mono ?_)
          rintro e w2 ⟨rfl, m, rfl⟩
          have HI := Lib.hid (HI.out.drew m)
          have c4 := blk_free HI.out.rd.box 3
          go_upto_region 3 with fail
          have HG3 := Lib.hid (grow_cell (w1.drewN m) ⟨rb, 3, none⟩ (.int .i64 111))
          obtain ⟨w3, hw3⟩ : ∃ z, (w1.drewN m).setCell ⟨rb, 3, none⟩ (.int .i64 111) = z := ⟨_, rfl⟩
          have HR3 := Lib.hid (HI.out.rd.wrong 111)
          rw [hw3] at HR3 HG3 ⊢
          have HI := Lib.hid (HI.out.step HR3.out HG3.out)
          clear hw3 HR3 HG3 c3 c4 HK c2
          have c2 := HI.out.rd.cells.2.2.1
          have f2 := blk_free HI.out.rd.box 2
          dsimp only at c2
          rw [hpt] at c2
          go_upto_region 4 with fail
          have HG4 := Lib.hid (grow_cell w3 ⟨rb, 2, none⟩ (.int .i64 ((pt : Int) + 1)))
          have HR4 : Hid (Rd w0 (w3.setCell ⟨rb, 2, none⟩ (.int .i64 ((pt : Int) + 1))) rb ao n c l BG) := Lib.hid (by
            have := HI.out.rd.part (pt + 1)
            rw [HSB.out, hpt]
            exact this)
          obtain ⟨w4, hw4⟩ : ∃ z, w3.setCell ⟨rb, 2, none⟩ (.int .i64 ((pt : Int) + 1)) = z := ⟨_, rfl⟩
          rw [hw4] at HG4 HR4 ⊢
          have HI := Lib.hid (HI.out.step HR4.out HG4.out)
          clear hw4 HR4 HG4 c2 f2 HSB hpt
          have HN := Lib.hid (pname_any w0 w4 rb ao n c l BG HI.out.rd)
          have HWB := Lib.hid (Lx.name_B HTB.out BG)
          have HPX : Hid (Lx.partX l k BG = if (Lx.name l BG).2.wrong = 0 ∧ Lx.opN (Lx.name l BG).1 ≠ 0 ∧ Lx.isMk l (Lx.name l BG).2.at_ [40] = true then Lx.operands l (Lx.part l (k - 1)) (Lx.opN (Lx.name l BG).1) (Lx.name l BG).2 else (Lx.leaf (Lx.name l BG).1, (Lx.name l BG).2)) := Lib.hid rfl
          obtain ⟨⟨wd, sN⟩, hn⟩ : ∃ z, Lx.name l BG = z := ⟨_, rfl⟩
          rw [hn] at HN HWB HPX HPQ HNZ
          dsimp only at HN HWB HPX HPQ HNZ
          have HOP := Lib.hid (fun w5 (q : Tabw w5) => op_any ⟨wd.toArray⟩ w5 q)
          rw [show (⟨wd.toArray⟩ : ByteArray).data.toList = wd by simp] at HOP
          have HON := Lib.hid (opN_lt wd)
          obtain ⟨on, hon⟩ : ∃ z, Lx.opN wd = z := ⟨_, rfl⟩
          rw [hon] at HOP HON HPX
          obtain ⟨bd, hbd⟩ : ∃ z : ByteArray, ⟨wd.toArray⟩ = z := ⟨_, rfl⟩
          have HBD := Lib.hid hbd
          rw [hbd] at HN HOP
          clear hn hon hbd
          go_wp2_with fail
          (with_reducible refine HN.out.mono ?_)
          rintro e w5 ⟨rfl, HR5, HG5⟩
          have HI := Lib.hid (HI.out.step HR5.out HG5.out)
          have HOP := Lib.hid (HOP.out w5 (HTW.out.keep HI.out.rd.bw))
          clear HR5 HG5 HN
          go_wp2_with fail
          (with_reducible refine HOP.out.mono ?_)
          rintro e w6 ⟨rfl, rfl⟩
          clear HOP
          have c3 := HI.out.rd.cells.2.2.2
          by_cases ca : sN.wrong = 0
          · rw [ca] at c3
            have h30 : ((0 : Int) != 0) = false := rfl
            by_cases cb : on = 0
            · have HE : Hid (Lx.partX l k BG = (Lx.leaf wd, sN)) := Lib.hid (by rw [HPX.out, if_neg (fun e => e.2.1 cb)])
              subst cb
              rw [show decide ((0 : Nat) ≠ 0) = false from rfl]
              clear ca HPX
              have d0 := cell_blk HI.out.res 0
              have d1 := cell_blk HI.out.res 1
              have d2 := cell_blk HI.out.res 2
              have d3 := cell_blk HI.out.res 3
              have g0 := blk_free HI.out.res 0
              have g1 := blk_free HI.out.res 1
              have g2 := blk_free HI.out.res 2
              have g3 := blk_free HI.out.res 3
              go_wp2
              obtain ⟨wf, hwf⟩ : ∃ z, put4 w5 b (.int .u8 0) (.string bd) (.slice none 0 0) (.slice none 0 0) = z := ⟨_, rfl⟩
              have hwf' := hwf
              unfold put4 at hwf'
              rw [hwf']
              have XF := put4_on HI.out.res (.int .u8 0) (.string bd) (.slice none 0 0) (.slice none 0 0)
              have g := put4_grown w5 b (.int .u8 0) (.string bd) (.slice none 0 0) (.slice none 0 0)
              rw [hwf] at g XF
              have r0 := cell_blk XF 0
              have r1 := cell_blk XF 1
              have r2 := cell_blk XF 2
              have r3 := cell_blk XF 3
              refine bodyPost_ret (v := .agg #[.int .u8 0, .string bd, .slice none 0 0, .slice none 0 0]) (by simp [results, Tryz.results25, go_sem, r0, r1, r2, r3]) rfl ⟨⟨⟨0, bd, [], 0⟩, none, 0, 0, none, 0⟩, rfl, Lib.hid ?_, Lib.hid ?_, Lib.hid ?_⟩
              · rw [HE.out]; exact HI.out.rd.grown g (fun q e => by cases e; have := HI.out.ne; omega)
              · exact grown_new HI.out.gr g (Nat.le_of_eq HI.out.lo)
              · rw [HE.out]
                have hx := ex_leaf' (only (frB W.heap.size) wf) wd HWB.out
                rw [HBD.out] at hx
                exact hx.more (by omega)
            · rw [show decide (on ≠ 0) = true from decide_eq_true cb]
              have HM := Lib.hid (isMark_any w0 w5 rb ao n c l sN [40] HI.out.rd _ rfl)
              have HKK : Hid (k ≠ 0) := Lib.hid (fun e => HNZ.out e ca)
              cases cc : Lx.isMk l sN.at_ [40] with
              | false =>
                have HE : Hid (Lx.partX l k BG = (Lx.leaf wd, sN)) := Lib.hid (by rw [HPX.out, if_neg (fun e => by rw [cc] at e; exact absurd e.2.2 (by decide))])
                rw [cc] at HM
                clear ca HPX cc cb
                go_wp2_with fail
                (with_reducible refine HM.out.mono ?_)
                rintro e w7 ⟨rfl, m7, rfl⟩
                have HI := Lib.hid (HI.out.drew m7)
                obtain ⟨w8, hw8⟩ : ∃ z, w5.drewN m7 = z := ⟨_, rfl⟩
                rw [hw8] at HI ⊢
                clear hw8 c3 HM
                have d0 := cell_blk HI.out.res 0
                have d1 := cell_blk HI.out.res 1
                have d2 := cell_blk HI.out.res 2
                have d3 := cell_blk HI.out.res 3
                have g0 := blk_free HI.out.res 0
                have g1 := blk_free HI.out.res 1
                have g2 := blk_free HI.out.res 2
                have g3 := blk_free HI.out.res 3
                go_wp2
                obtain ⟨wf, hwf⟩ : ∃ z, put4 w8 b (.int .u8 0) (.string bd) (.slice none 0 0) (.slice none 0 0) = z := ⟨_, rfl⟩
                have hwf' := hwf
                unfold put4 at hwf'
                rw [hwf']
                have XF := put4_on HI.out.res (.int .u8 0) (.string bd) (.slice none 0 0) (.slice none 0 0)
                have g := put4_grown w8 b (.int .u8 0) (.string bd) (.slice none 0 0) (.slice none 0 0)
                rw [hwf] at g XF
                have r0 := cell_blk XF 0
                have r1 := cell_blk XF 1
                have r2 := cell_blk XF 2
                have r3 := cell_blk XF 3
                refine bodyPost_ret (v := .agg #[.int .u8 0, .string bd, .slice none 0 0, .slice none 0 0]) (by simp [results, Tryz.results25, go_sem, r0, r1, r2, r3]) rfl ⟨⟨⟨0, bd, [], 0⟩, none, 0, 0, none, 0⟩, rfl, Lib.hid ?_, Lib.hid ?_, Lib.hid ?_⟩
                · rw [HE.out]; exact HI.out.rd.grown g (fun q e => by cases e; have := HI.out.ne; omega)
                · exact grown_new HI.out.gr g (Nat.le_of_eq HI.out.lo)
                · rw [HE.out]
                  have hx := ex_leaf' (only (frB W.heap.size) wf) wd HWB.out
                  rw [HBD.out] at hx
                  exact hx.more (by omega)
              | true =>
                have HE : Hid (Lx.partX l k BG = Lx.operands l (Lx.part l (k - 1)) on sN) := Lib.hid (by rw [HPX.out, if_pos ⟨ca, cb, cc⟩])
                rw [cc] at HM
                clear ca HPX cc cb
                go_wp2_with fail
                (with_reducible refine HM.out.mono ?_)
                rintro e w7 ⟨rfl, m7, rfl⟩
                have HI := Lib.hid (HI.out.drew m7)
                obtain ⟨w8, hw8⟩ : ∃ z, w5.drewN m7 = z := ⟨_, rfl⟩
                rw [hw8] at HI ⊢
                clear hw8 c3 HM
                have HO := Lib.hid (operands_any w0 rb ao n c l HTB.out HTT.out (k - 1) (HIH.out HKK.out) (by omega) w8 on HON.out sN HI.out.rd HPQ.out)
                rw [show (40 : Int) - ((k - 1 : Nat) : Int) = 41 - (k : Int) by have := HKK.out; omega, show k - 1 + 2 = k + 1 by have := HKK.out; omega] at HO
                go_wp2_with fail
                (with_reducible refine HO.out.mono ?_)
                rintro e w9 ⟨⟨⟨zo, znm, znu, zk⟩, zan, znn, znc, zaa, zac⟩, rfl, HR9, HG9, HX9⟩
                have HLW := Lib.hid HI.out.lo
                have HS8 := Lib.hid HI.out.gr.size
                have HL8 := Lib.hid (Array.getElem?_eq_some_iff.1 HI.out.res).1
                have HI := Lib.hid (HI.out.step HR9.out HG9.out)
                clear HO HR9 HG9
                have d0 := cell_blk HI.out.res 0
                have d1 := cell_blk HI.out.res 1
                have d2 := cell_blk HI.out.res 2
                have d3 := cell_blk HI.out.res 3
                have g0 := blk_free HI.out.res 0
                have g1 := blk_free HI.out.res 1
                have g2 := blk_free HI.out.res 2
                have g3 := blk_free HI.out.res 3
                go_wp2
                obtain ⟨wf, hwf⟩ : ∃ z, put4 w9 b (.int .u8 zo) (.string znm) (.slice zan znn znc) (.slice zaa zk zac) = z := ⟨_, rfl⟩
                have hwf' := hwf
                unfold put4 at hwf'
                rw [hwf']
                have XF := put4_on HI.out.res (.int .u8 zo) (.string znm) (.slice zan znn znc) (.slice zaa zk zac)
                have g := put4_grown w9 b (.int .u8 zo) (.string znm) (.slice zan znn znc) (.slice zaa zk zac)
                rw [hwf] at g XF
                have r0 := cell_blk XF 0
                have r1 := cell_blk XF 1
                have r2 := cell_blk XF 2
                have r3 := cell_blk XF 3
                refine bodyPost_ret (v := .agg #[.int .u8 zo, .string znm, .slice zan znn znc, .slice zaa zk zac]) (by simp [results, Tryz.results25, go_sem, r0, r1, r2, r3]) rfl ⟨⟨⟨zo, znm, znu, zk⟩, zan, znn, znc, zaa, zac⟩, rfl, Lib.hid ?_, Lib.hid ?_, Lib.hid ?_⟩
                · rw [HE.out]; exact HI.out.rd.grown g (fun q e => by cases e; have := HI.out.ne; omega)
                · exact grown_new HI.out.gr g (Nat.le_of_eq HI.out.lo)
                · rw [HE.out]
                  refine HX9.out.sub (only_sub (fun q e lt => ⟨frB_le (by have := le_frB e; have := HS8.out; omega), g.block q lt (fun e' => ?_)⟩))
                  have := le_frB e
                  cases e'
                  have := HL8.out
                  omega
          · have HE : Hid (Lx.partX l k BG = (Lx.leaf wd, sN)) := Lib.hid (by rw [HPX.out, if_neg (fun e => ca e.1)])
            have h30 : (sN.wrong != 0) = true := by simpa using ca
            obtain ⟨xx, hxx⟩ : ∃ z, sN.wrong = z := ⟨_, rfl⟩
            rw [hxx] at c3 h30
            clear ca HPX hxx
            have d0 := cell_blk HI.out.res 0
            have d1 := cell_blk HI.out.res 1
            have d2 := cell_blk HI.out.res 2
            have d3 := cell_blk HI.out.res 3
            have g0 := blk_free HI.out.res 0
            have g1 := blk_free HI.out.res 1
            have g2 := blk_free HI.out.res 2
            have g3 := blk_free HI.out.res 3
            go_wp2
            obtain ⟨wf, hwf⟩ : ∃ z, put4 w5 b (.int .u8 0) (.string bd) (.slice none 0 0) (.slice none 0 0) = z := ⟨_, rfl⟩
            have hwf' := hwf
            unfold put4 at hwf'
            rw [hwf']
            have XF := put4_on HI.out.res (.int .u8 0) (.string bd) (.slice none 0 0) (.slice none 0 0)
            have g := put4_grown w5 b (.int .u8 0) (.string bd) (.slice none 0 0) (.slice none 0 0)
            rw [hwf] at g XF
            have r0 := cell_blk XF 0
            have r1 := cell_blk XF 1
            have r2 := cell_blk XF 2
            have r3 := cell_blk XF 3
            refine bodyPost_ret (v := .agg #[.int .u8 0, .string bd, .slice none 0 0, .slice none 0 0]) (by simp [results, Tryz.results25, go_sem, r0, r1, r2, r3]) rfl ⟨⟨⟨0, bd, [], 0⟩, none, 0, 0, none, 0⟩, rfl, Lib.hid ?_, Lib.hid ?_, Lib.hid ?_⟩
            · rw [HE.out]; exact HI.out.rd.grown g (fun q e => by cases e; have := HI.out.ne; omega)
            · exact grown_new HI.out.gr g (Nat.le_of_eq HI.out.lo)
            · rw [HE.out]
              have hx := ex_leaf' (only (frB W.heap.size) wf) wd HWB.out
              rw [HBD.out] at hx
              exact hx.more (by omega)
      · have HSB : Hid (BG = ⟨s.at_, s.parts + 1, 0⟩) := Lib.hid (by
          rw [← HBG.out]; unfold Lx.begun; rw [if_neg (fun e => cd (by rcases e.2.2 with e | e; exact .inl (of_decide_eq_true e); exact .inr e)), ca])
        have cz1 : ¬ (40 : Int) < 41 - (k : Int) := by omega
        have c2 := HI.out.rd.cells.2.2.1
        have cp : ((s.parts : Int) == 2000) = false := by simp; omega
        rw [hpt] at c2 cp
        have HI : Hid (PtI w0 W w1 rb b ao n c l ⟨s.at_, s.parts, 0⟩) := Lib.hid (by rw [← ca]; exact HI.out)
        clear HBG cb ca cd
        go_enter Tryz.func25, Tryz.ntmps25
        go_upto_region 1 with fail
        clear hw1 hb
        go_wp2_with fail
        (with_reducible refine HK.out.mono ?_)
        rintro e w2 ⟨rfl, m, rfl⟩
        have HI := Lib.hid (HI.out.drew m)
        go_upto_region 3 with fail
        obtain ⟨w3, hw3⟩ : ∃ z, w1.drewN m = z := ⟨_, rfl⟩
        rw [hw3] at HI ⊢
        clear hw3 c3 HK c2 cp
        have c2 := HI.out.rd.cells.2.2.1
        have f2 := blk_free HI.out.rd.box 2
        dsimp only at c2
        rw [hpt] at c2
        go_upto_region 4 with fail
        have HG4 := Lib.hid (grow_cell w3 ⟨rb, 2, none⟩ (.int .i64 ((pt : Int) + 1)))
        have HR4 : Hid (Rd w0 (w3.setCell ⟨rb, 2, none⟩ (.int .i64 ((pt : Int) + 1))) rb ao n c l BG) := Lib.hid (by
          have := HI.out.rd.part (pt + 1)
          rw [HSB.out, hpt]
          exact this)
        obtain ⟨w4, hw4⟩ : ∃ z, w3.setCell ⟨rb, 2, none⟩ (.int .i64 ((pt : Int) + 1)) = z := ⟨_, rfl⟩
        rw [hw4] at HG4 HR4 ⊢
        have HI := Lib.hid (HI.out.step HR4.out HG4.out)
        clear hw4 HR4 HG4 c2 f2 HSB hpt
        have HN := Lib.hid (pname_any w0 w4 rb ao n c l BG HI.out.rd)
        have HWB := Lib.hid (Lx.name_B HTB.out BG)
        have HPX : Hid (Lx.partX l k BG = if (Lx.name l BG).2.wrong = 0 ∧ Lx.opN (Lx.name l BG).1 ≠ 0 ∧ Lx.isMk l (Lx.name l BG).2.at_ [40] = true then Lx.operands l (Lx.part l (k - 1)) (Lx.opN (Lx.name l BG).1) (Lx.name l BG).2 else (Lx.leaf (Lx.name l BG).1, (Lx.name l BG).2)) := Lib.hid rfl
        obtain ⟨⟨wd, sN⟩, hn⟩ : ∃ z, Lx.name l BG = z := ⟨_, rfl⟩
        rw [hn] at HN HWB HPX HPQ HNZ
        dsimp only at HN HWB HPX HPQ HNZ
        have HOP := Lib.hid (fun w5 (q : Tabw w5) => op_any ⟨wd.toArray⟩ w5 q)
        rw [show (⟨wd.toArray⟩ : ByteArray).data.toList = wd by simp] at HOP
        have HON := Lib.hid (opN_lt wd)
        obtain ⟨on, hon⟩ : ∃ z, Lx.opN wd = z := ⟨_, rfl⟩
        rw [hon] at HOP HON HPX
        obtain ⟨bd, hbd⟩ : ∃ z : ByteArray, ⟨wd.toArray⟩ = z := ⟨_, rfl⟩
        have HBD := Lib.hid hbd
        rw [hbd] at HN HOP
        clear hn hon hbd
        go_wp2_with fail
        (with_reducible refine HN.out.mono ?_)
        rintro e w5 ⟨rfl, HR5, HG5⟩
        have HI := Lib.hid (HI.out.step HR5.out HG5.out)
        have HOP := Lib.hid (HOP.out w5 (HTW.out.keep HI.out.rd.bw))
        clear HR5 HG5 HN
        go_wp2_with fail
        (with_reducible refine HOP.out.mono ?_)
        rintro e w6 ⟨rfl, rfl⟩
        clear HOP
        have c3 := HI.out.rd.cells.2.2.2
        by_cases ca : sN.wrong = 0
        · rw [ca] at c3
          have h30 : ((0 : Int) != 0) = false := rfl
          by_cases cb : on = 0
          · have HE : Hid (Lx.partX l k BG = (Lx.leaf wd, sN)) := Lib.hid (by rw [HPX.out, if_neg (fun e => e.2.1 cb)])
            subst cb
            rw [show decide ((0 : Nat) ≠ 0) = false from rfl]
            clear ca HPX
            have d0 := cell_blk HI.out.res 0
            have d1 := cell_blk HI.out.res 1
            have d2 := cell_blk HI.out.res 2
            have d3 := cell_blk HI.out.res 3
            have g0 := blk_free HI.out.res 0
            have g1 := blk_free HI.out.res 1
            have g2 := blk_free HI.out.res 2
            have g3 := blk_free HI.out.res 3
            go_wp2
            obtain ⟨wf, hwf⟩ : ∃ z, put4 w5 b (.int .u8 0) (.string bd) (.slice none 0 0) (.slice none 0 0) = z := ⟨_, rfl⟩
            have hwf' := hwf
            unfold put4 at hwf'
            rw [hwf']
            have XF := put4_on HI.out.res (.int .u8 0) (.string bd) (.slice none 0 0) (.slice none 0 0)
            have g := put4_grown w5 b (.int .u8 0) (.string bd) (.slice none 0 0) (.slice none 0 0)
            rw [hwf] at g XF
            have r0 := cell_blk XF 0
            have r1 := cell_blk XF 1
            have r2 := cell_blk XF 2
            have r3 := cell_blk XF 3
            refine bodyPost_ret (v := .agg #[.int .u8 0, .string bd, .slice none 0 0, .slice none 0 0]) (by simp [results, Tryz.results25, go_sem, r0, r1, r2, r3]) rfl ⟨⟨⟨0, bd, [], 0⟩, none, 0, 0, none, 0⟩, rfl, Lib.hid ?_, Lib.hid ?_, Lib.hid ?_⟩
            · rw [HE.out]; exact HI.out.rd.grown g (fun q e => by cases e; have := HI.out.ne; omega)
            · exact grown_new HI.out.gr g (Nat.le_of_eq HI.out.lo)
            · rw [HE.out]
              have hx := ex_leaf' (only (frB W.heap.size) wf) wd HWB.out
              rw [HBD.out] at hx
              exact hx.more (by omega)
          · rw [show decide (on ≠ 0) = true from decide_eq_true cb]
            have HM := Lib.hid (isMark_any w0 w5 rb ao n c l sN [40] HI.out.rd _ rfl)
            have HKK : Hid (k ≠ 0) := Lib.hid (fun e => HNZ.out e ca)
            cases cc : Lx.isMk l sN.at_ [40] with
            | false =>
              have HE : Hid (Lx.partX l k BG = (Lx.leaf wd, sN)) := Lib.hid (by rw [HPX.out, if_neg (fun e => by rw [cc] at e; exact absurd e.2.2 (by decide))])
              rw [cc] at HM
              clear ca HPX cc cb
              go_wp2_with fail
              (with_reducible refine HM.out.mono ?_)
              rintro e w7 ⟨rfl, m7, rfl⟩
              have HI := Lib.hid (HI.out.drew m7)
              obtain ⟨w8, hw8⟩ : ∃ z, w5.drewN m7 = z := ⟨_, rfl⟩
              rw [hw8] at HI ⊢
              clear hw8 c3 HM
              have d0 := cell_blk HI.out.res 0
              have d1 := cell_blk HI.out.res 1
              have d2 := cell_blk HI.out.res 2
              have d3 := cell_blk HI.out.res 3
              have g0 := blk_free HI.out.res 0
              have g1 := blk_free HI.out.res 1
              have g2 := blk_free HI.out.res 2
              have g3 := blk_free HI.out.res 3
              go_wp2
              obtain ⟨wf, hwf⟩ : ∃ z, put4 w8 b (.int .u8 0) (.string bd) (.slice none 0 0) (.slice none 0 0) = z := ⟨_, rfl⟩
              have hwf' := hwf
              unfold put4 at hwf'
              rw [hwf']
              have XF := put4_on HI.out.res (.int .u8 0) (.string bd) (.slice none 0 0) (.slice none 0 0)
              have g := put4_grown w8 b (.int .u8 0) (.string bd) (.slice none 0 0) (.slice none 0 0)
              rw [hwf] at g XF
              have r0 := cell_blk XF 0
              have r1 := cell_blk XF 1
              have r2 := cell_blk XF 2
              have r3 := cell_blk XF 3
              refine bodyPost_ret (v := .agg #[.int .u8 0, .string bd, .slice none 0 0, .slice none 0 0]) (by simp [results, Tryz.results25, go_sem, r0, r1, r2, r3]) rfl ⟨⟨⟨0, bd, [], 0⟩, none, 0, 0, none, 0⟩, rfl, Lib.hid ?_, Lib.hid ?_, Lib.hid ?_⟩
              · rw [HE.out]; exact HI.out.rd.grown g (fun q e => by cases e; have := HI.out.ne; omega)
              · exact grown_new HI.out.gr g (Nat.le_of_eq HI.out.lo)
              · rw [HE.out]
                have hx := ex_leaf' (only (frB W.heap.size) wf) wd HWB.out
                rw [HBD.out] at hx
                exact hx.more (by omega)
            | true =>
              have HE : Hid (Lx.partX l k BG = Lx.operands l (Lx.part l (k - 1)) on sN) := Lib.hid (by rw [HPX.out, if_pos ⟨ca, cb, cc⟩])
              rw [cc] at HM
              clear ca HPX cc cb
              go_wp2_with fail
              (with_reducible refine HM.out.mono ?_)
              rintro e w7 ⟨rfl, m7, rfl⟩
              have HI := Lib.hid (HI.out.drew m7)
              obtain ⟨w8, hw8⟩ : ∃ z, w5.drewN m7 = z := ⟨_, rfl⟩
              rw [hw8] at HI ⊢
              clear hw8 c3 HM
              have HO := Lib.hid (operands_any w0 rb ao n c l HTB.out HTT.out (k - 1) (HIH.out HKK.out) (by omega) w8 on HON.out sN HI.out.rd HPQ.out)
              rw [show (40 : Int) - ((k - 1 : Nat) : Int) = 41 - (k : Int) by have := HKK.out; omega, show k - 1 + 2 = k + 1 by have := HKK.out; omega] at HO
              go_wp2_with fail
              (with_reducible refine HO.out.mono ?_)
              rintro e w9 ⟨⟨⟨zo, znm, znu, zk⟩, zan, znn, znc, zaa, zac⟩, rfl, HR9, HG9, HX9⟩
              have HLW := Lib.hid HI.out.lo
              have HS8 := Lib.hid HI.out.gr.size
              have HL8 := Lib.hid (Array.getElem?_eq_some_iff.1 HI.out.res).1
              have HI := Lib.hid (HI.out.step HR9.out HG9.out)
              clear HO HR9 HG9
              have d0 := cell_blk HI.out.res 0
              have d1 := cell_blk HI.out.res 1
              have d2 := cell_blk HI.out.res 2
              have d3 := cell_blk HI.out.res 3
              have g0 := blk_free HI.out.res 0
              have g1 := blk_free HI.out.res 1
              have g2 := blk_free HI.out.res 2
              have g3 := blk_free HI.out.res 3
              go_wp2
              obtain ⟨wf, hwf⟩ : ∃ z, put4 w9 b (.int .u8 zo) (.string znm) (.slice zan znn znc) (.slice zaa zk zac) = z := ⟨_, rfl⟩
              have hwf' := hwf
              unfold put4 at hwf'
              rw [hwf']
              have XF := put4_on HI.out.res (.int .u8 zo) (.string znm) (.slice zan znn znc) (.slice zaa zk zac)
              have g := put4_grown w9 b (.int .u8 zo) (.string znm) (.slice zan znn znc) (.slice zaa zk zac)
              rw [hwf] at g XF
              have r0 := cell_blk XF 0
              have r1 := cell_blk XF 1
              have r2 := cell_blk XF 2
              have r3 := cell_blk XF 3
              refine bodyPost_ret (v := .agg #[.int .u8 zo, .string znm, .slice zan znn znc, .slice zaa zk zac]) (by simp [results, Tryz.results25, go_sem, r0, r1, r2, r3]) rfl ⟨⟨⟨zo, znm, znu, zk⟩, zan, znn, znc, zaa, zac⟩, rfl, Lib.hid ?_, Lib.hid ?_, Lib.hid ?_⟩
              · rw [HE.out]; exact HI.out.rd.grown g (fun q e => by cases e; have := HI.out.ne; omega)
              · exact grown_new HI.out.gr g (Nat.le_of_eq HI.out.lo)
              · rw [HE.out]
                refine HX9.out.sub (only_sub (fun q e lt => ⟨frB_le (by have := le_frB e; have := HS8.out; omega), g.block q lt (fun e' => ?_)⟩))
                have := le_frB e
                cases e'
                have := HL8.out
                omega
        · have HE : Hid (Lx.partX l k BG = (Lx.leaf wd, sN)) := Lib.hid (by rw [HPX.out, if_neg (fun e => ca e.1)])
          have h30 : (sN.wrong != 0) = true := by simpa using ca
          obtain ⟨xx, hxx⟩ : ∃ z, sN.wrong = z := ⟨_, rfl⟩
          rw [hxx] at c3 h30
          clear ca HPX hxx
          have d0 := cell_blk HI.out.res 0
          have d1 := cell_blk HI.out.res 1
          have d2 := cell_blk HI.out.res 2
          have d3 := cell_blk HI.out.res 3
          have g0 := blk_free HI.out.res 0
          have g1 := blk_free HI.out.res 1
          have g2 := blk_free HI.out.res 2
          have g3 := blk_free HI.out.res 3
          go_wp2
          obtain ⟨wf, hwf⟩ : ∃ z, put4 w5 b (.int .u8 0) (.string bd) (.slice none 0 0) (.slice none 0 0) = z := ⟨_, rfl⟩
          have hwf' := hwf
          unfold put4 at hwf'
          rw [hwf']
          have XF := put4_on HI.out.res (.int .u8 0) (.string bd) (.slice none 0 0) (.slice none 0 0)
          have g := put4_grown w5 b (.int .u8 0) (.string bd) (.slice none 0 0) (.slice none 0 0)
          rw [hwf] at g XF
          have r0 := cell_blk XF 0
          have r1 := cell_blk XF 1
          have r2 := cell_blk XF 2
          have r3 := cell_blk XF 3
          refine bodyPost_ret (v := .agg #[.int .u8 0, .string bd, .slice none 0 0, .slice none 0 0]) (by simp [results, Tryz.results25, go_sem, r0, r1, r2, r3]) rfl ⟨⟨⟨0, bd, [], 0⟩, none, 0, 0, none, 0⟩, rfl, Lib.hid ?_, Lib.hid ?_, Lib.hid ?_⟩
          · rw [HE.out]; exact HI.out.rd.grown g (fun q e => by cases e; have := HI.out.ne; omega)
          · exact grown_new HI.out.gr g (Nat.le_of_eq HI.out.lo)
          · rw [HE.out]
            have hx := ex_leaf' (only (frB W.heap.size) wf) wd HWB.out
            rw [HBD.out] at hx
            exact hx.more (by omega)
    · have HSB : Hid (BG = ⟨s.at_, s.parts + 1, 0⟩) := Lib.hid (by
        rw [← HBG.out]; unfold Lx.begun; rw [if_neg (fun e => cb (of_decide_eq_true e.2.1)), ca])
      have HI : Hid (PtI w0 W w1 rb b ao n c l ⟨s.at_, s.parts, 0⟩) := Lib.hid (by rw [← ca]; exact HI.out)
      obtain ⟨u, hu⟩ : ∃ u, (Lx.tkAt l s.at_).1 = u := ⟨_, rfl⟩
      have cu : (u == 1) = false := by rw [← hu]; simpa using cb
      rw [hu] at HK
      clear HBG cb ca hu
      go_enter Tryz.func25, Tryz.ntmps25
      go_upto_region 1 with fail
      clear hw1 hb
      go_wp2_with fail
      (with_reducible refine HK.out.mono ?_)
      rintro e w2 ⟨rfl, m, rfl⟩
      have HI := Lib.hid (HI.out.drew m)
      go_upto_region 3 with fail
      obtain ⟨w3, hw3⟩ : ∃ z, w1.drewN m = z := ⟨_, rfl⟩
      rw [hw3] at HI ⊢
      clear hw3 c3 HK cu
      have c2 := HI.out.rd.cells.2.2.1
      have f2 := blk_free HI.out.rd.box 2
      dsimp only at c2
      rw [hpt] at c2
      go_upto_region 4 with fail
      have HG4 := Lib.hid (grow_cell w3 ⟨rb, 2, none⟩ (.int .i64 ((pt : Int) + 1)))
      have HR4 : Hid (Rd w0 (w3.setCell ⟨rb, 2, none⟩ (.int .i64 ((pt : Int) + 1))) rb ao n c l BG) := Lib.hid (by
        have := HI.out.rd.part (pt + 1)
        rw [HSB.out, hpt]
        exact this)
      obtain ⟨w4, hw4⟩ : ∃ z, w3.setCell ⟨rb, 2, none⟩ (.int .i64 ((pt : Int) + 1)) = z := ⟨_, rfl⟩
      rw [hw4] at HG4 HR4 ⊢
      have HI := Lib.hid (HI.out.step HR4.out HG4.out)
      clear hw4 HR4 HG4 c2 f2 HSB hpt
      have HN := Lib.hid (pname_any w0 w4 rb ao n c l BG HI.out.rd)
      have HWB := Lib.hid (Lx.name_B HTB.out BG)
      have HPX : Hid (Lx.partX l k BG = if (Lx.name l BG).2.wrong = 0 ∧ Lx.opN (Lx.name l BG).1 ≠ 0 ∧ Lx.isMk l (Lx.name l BG).2.at_ [40] = true then Lx.operands l (Lx.part l (k - 1)) (Lx.opN (Lx.name l BG).1) (Lx.name l BG).2 else (Lx.leaf (Lx.name l BG).1, (Lx.name l BG).2)) := Lib.hid rfl
      obtain ⟨⟨wd, sN⟩, hn⟩ : ∃ z, Lx.name l BG = z := ⟨_, rfl⟩
      rw [hn] at HN HWB HPX HPQ HNZ
      dsimp only at HN HWB HPX HPQ HNZ
      have HOP := Lib.hid (fun w5 (q : Tabw w5) => op_any ⟨wd.toArray⟩ w5 q)
      rw [show (⟨wd.toArray⟩ : ByteArray).data.toList = wd by simp] at HOP
      have HON := Lib.hid (opN_lt wd)
      obtain ⟨on, hon⟩ : ∃ z, Lx.opN wd = z := ⟨_, rfl⟩
      rw [hon] at HOP HON HPX
      obtain ⟨bd, hbd⟩ : ∃ z : ByteArray, ⟨wd.toArray⟩ = z := ⟨_, rfl⟩
      have HBD := Lib.hid hbd
      rw [hbd] at HN HOP
      clear hn hon hbd
      go_wp2_with fail
      (with_reducible refine HN.out.mono ?_)
      rintro e w5 ⟨rfl, HR5, HG5⟩
      have HI := Lib.hid (HI.out.step HR5.out HG5.out)
      have HOP := Lib.hid (HOP.out w5 (HTW.out.keep HI.out.rd.bw))
      clear HR5 HG5 HN
      go_wp2_with fail
      (with_reducible refine HOP.out.mono ?_)
      rintro e w6 ⟨rfl, rfl⟩
      clear HOP
      have c3 := HI.out.rd.cells.2.2.2
      by_cases ca : sN.wrong = 0
      · rw [ca] at c3
        have h30 : ((0 : Int) != 0) = false := rfl
        by_cases cb : on = 0
        · have HE : Hid (Lx.partX l k BG = (Lx.leaf wd, sN)) := Lib.hid (by rw [HPX.out, if_neg (fun e => e.2.1 cb)])
          subst cb
          rw [show decide ((0 : Nat) ≠ 0) = false from rfl]
          clear ca HPX
          have d0 := cell_blk HI.out.res 0
          have d1 := cell_blk HI.out.res 1
          have d2 := cell_blk HI.out.res 2
          have d3 := cell_blk HI.out.res 3
          have g0 := blk_free HI.out.res 0
          have g1 := blk_free HI.out.res 1
          have g2 := blk_free HI.out.res 2
          have g3 := blk_free HI.out.res 3
          go_wp2
          obtain ⟨wf, hwf⟩ : ∃ z, put4 w5 b (.int .u8 0) (.string bd) (.slice none 0 0) (.slice none 0 0) = z := ⟨_, rfl⟩
          have hwf' := hwf
          unfold put4 at hwf'
          rw [hwf']
          have XF := put4_on HI.out.res (.int .u8 0) (.string bd) (.slice none 0 0) (.slice none 0 0)
          have g := put4_grown w5 b (.int .u8 0) (.string bd) (.slice none 0 0) (.slice none 0 0)
          rw [hwf] at g XF
          have r0 := cell_blk XF 0
          have r1 := cell_blk XF 1
          have r2 := cell_blk XF 2
          have r3 := cell_blk XF 3
          refine bodyPost_ret (v := .agg #[.int .u8 0, .string bd, .slice none 0 0, .slice none 0 0]) (by simp [results, Tryz.results25, go_sem, r0, r1, r2, r3]) rfl ⟨⟨⟨0, bd, [], 0⟩, none, 0, 0, none, 0⟩, rfl, Lib.hid ?_, Lib.hid ?_, Lib.hid ?_⟩
          · rw [HE.out]; exact HI.out.rd.grown g (fun q e => by cases e; have := HI.out.ne; omega)
          · exact grown_new HI.out.gr g (Nat.le_of_eq HI.out.lo)
          · rw [HE.out]
            have hx := ex_leaf' (only (frB W.heap.size) wf) wd HWB.out
            rw [HBD.out] at hx
            exact hx.more (by omega)
        · rw [show decide (on ≠ 0) = true from decide_eq_true cb]
          have HM := Lib.hid (isMark_any w0 w5 rb ao n c l sN [40] HI.out.rd _ rfl)
          have HKK : Hid (k ≠ 0) := Lib.hid (fun e => HNZ.out e ca)
          cases cc : Lx.isMk l sN.at_ [40] with
          | false =>
            have HE : Hid (Lx.partX l k BG = (Lx.leaf wd, sN)) := Lib.hid (by rw [HPX.out, if_neg (fun e => by rw [cc] at e; exact absurd e.2.2 (by decide))])
            rw [cc] at HM
            clear ca HPX cc cb
            go_wp2_with fail
            (with_reducible refine HM.out.mono ?_)
            rintro e w7 ⟨rfl, m7, rfl⟩
            have HI := Lib.hid (HI.out.drew m7)
            obtain ⟨w8, hw8⟩ : ∃ z, w5.drewN m7 = z := ⟨_, rfl⟩
            rw [hw8] at HI ⊢
            clear hw8 c3 HM
            have d0 := cell_blk HI.out.res 0
            have d1 := cell_blk HI.out.res 1
            have d2 := cell_blk HI.out.res 2
            have d3 := cell_blk HI.out.res 3
            have g0 := blk_free HI.out.res 0
            have g1 := blk_free HI.out.res 1
            have g2 := blk_free HI.out.res 2
            have g3 := blk_free HI.out.res 3
            go_wp2
            obtain ⟨wf, hwf⟩ : ∃ z, put4 w8 b (.int .u8 0) (.string bd) (.slice none 0 0) (.slice none 0 0) = z := ⟨_, rfl⟩
            have hwf' := hwf
            unfold put4 at hwf'
            rw [hwf']
            have XF := put4_on HI.out.res (.int .u8 0) (.string bd) (.slice none 0 0) (.slice none 0 0)
            have g := put4_grown w8 b (.int .u8 0) (.string bd) (.slice none 0 0) (.slice none 0 0)
            rw [hwf] at g XF
            have r0 := cell_blk XF 0
            have r1 := cell_blk XF 1
            have r2 := cell_blk XF 2
            have r3 := cell_blk XF 3
            refine bodyPost_ret (v := .agg #[.int .u8 0, .string bd, .slice none 0 0, .slice none 0 0]) (by simp [results, Tryz.results25, go_sem, r0, r1, r2, r3]) rfl ⟨⟨⟨0, bd, [], 0⟩, none, 0, 0, none, 0⟩, rfl, Lib.hid ?_, Lib.hid ?_, Lib.hid ?_⟩
            · rw [HE.out]; exact HI.out.rd.grown g (fun q e => by cases e; have := HI.out.ne; omega)
            · exact grown_new HI.out.gr g (Nat.le_of_eq HI.out.lo)
            · rw [HE.out]
              have hx := ex_leaf' (only (frB W.heap.size) wf) wd HWB.out
              rw [HBD.out] at hx
              exact hx.more (by omega)
          | true =>
            have HE : Hid (Lx.partX l k BG = Lx.operands l (Lx.part l (k - 1)) on sN) := Lib.hid (by rw [HPX.out, if_pos ⟨ca, cb, cc⟩])
            rw [cc] at HM
            clear ca HPX cc cb
            go_wp2_with fail
            (with_reducible refine HM.out.mono ?_)
            rintro e w7 ⟨rfl, m7, rfl⟩
            have HI := Lib.hid (HI.out.drew m7)
            obtain ⟨w8, hw8⟩ : ∃ z, w5.drewN m7 = z := ⟨_, rfl⟩
            rw [hw8] at HI ⊢
            clear hw8 c3 HM
            have HO := Lib.hid (operands_any w0 rb ao n c l HTB.out HTT.out (k - 1) (HIH.out HKK.out) (by omega) w8 on HON.out sN HI.out.rd HPQ.out)
            rw [show (40 : Int) - ((k - 1 : Nat) : Int) = 41 - (k : Int) by have := HKK.out; omega, show k - 1 + 2 = k + 1 by have := HKK.out; omega] at HO
            go_wp2_with fail
            (with_reducible refine HO.out.mono ?_)
            rintro e w9 ⟨⟨⟨zo, znm, znu, zk⟩, zan, znn, znc, zaa, zac⟩, rfl, HR9, HG9, HX9⟩
            have HLW := Lib.hid HI.out.lo
            have HS8 := Lib.hid HI.out.gr.size
            have HL8 := Lib.hid (Array.getElem?_eq_some_iff.1 HI.out.res).1
            have HI := Lib.hid (HI.out.step HR9.out HG9.out)
            clear HO HR9 HG9
            have d0 := cell_blk HI.out.res 0
            have d1 := cell_blk HI.out.res 1
            have d2 := cell_blk HI.out.res 2
            have d3 := cell_blk HI.out.res 3
            have g0 := blk_free HI.out.res 0
            have g1 := blk_free HI.out.res 1
            have g2 := blk_free HI.out.res 2
            have g3 := blk_free HI.out.res 3
            go_wp2
            obtain ⟨wf, hwf⟩ : ∃ z, put4 w9 b (.int .u8 zo) (.string znm) (.slice zan znn znc) (.slice zaa zk zac) = z := ⟨_, rfl⟩
            have hwf' := hwf
            unfold put4 at hwf'
            rw [hwf']
            have XF := put4_on HI.out.res (.int .u8 zo) (.string znm) (.slice zan znn znc) (.slice zaa zk zac)
            have g := put4_grown w9 b (.int .u8 zo) (.string znm) (.slice zan znn znc) (.slice zaa zk zac)
            rw [hwf] at g XF
            have r0 := cell_blk XF 0
            have r1 := cell_blk XF 1
            have r2 := cell_blk XF 2
            have r3 := cell_blk XF 3
            refine bodyPost_ret (v := .agg #[.int .u8 zo, .string znm, .slice zan znn znc, .slice zaa zk zac]) (by simp [results, Tryz.results25, go_sem, r0, r1, r2, r3]) rfl ⟨⟨⟨zo, znm, znu, zk⟩, zan, znn, znc, zaa, zac⟩, rfl, Lib.hid ?_, Lib.hid ?_, Lib.hid ?_⟩
            · rw [HE.out]; exact HI.out.rd.grown g (fun q e => by cases e; have := HI.out.ne; omega)
            · exact grown_new HI.out.gr g (Nat.le_of_eq HI.out.lo)
            · rw [HE.out]
              refine HX9.out.sub (only_sub (fun q e lt => ⟨frB_le (by have := le_frB e; have := HS8.out; omega), g.block q lt (fun e' => ?_)⟩))
              have := le_frB e
              cases e'
              have := HL8.out
              omega
      · have HE : Hid (Lx.partX l k BG = (Lx.leaf wd, sN)) := Lib.hid (by rw [HPX.out, if_neg (fun e => ca e.1)])
        have h30 : (sN.wrong != 0) = true := by simpa using ca
        obtain ⟨xx, hxx⟩ : ∃ z, sN.wrong = z := ⟨_, rfl⟩
        rw [hxx] at c3 h30
        clear ca HPX hxx
        have d0 := cell_blk HI.out.res 0
        have d1 := cell_blk HI.out.res 1
        have d2 := cell_blk HI.out.res 2
        have d3 := cell_blk HI.out.res 3
        have g0 := blk_free HI.out.res 0
        have g1 := blk_free HI.out.res 1
        have g2 := blk_free HI.out.res 2
        have g3 := blk_free HI.out.res 3
        go_wp2
        obtain ⟨wf, hwf⟩ : ∃ z, put4 w5 b (.int .u8 0) (.string bd) (.slice none 0 0) (.slice none 0 0) = z := ⟨_, rfl⟩
        have hwf' := hwf
        unfold put4 at hwf'
        rw [hwf']
        have XF := put4_on HI.out.res (.int .u8 0) (.string bd) (.slice none 0 0) (.slice none 0 0)
        have g := put4_grown w5 b (.int .u8 0) (.string bd) (.slice none 0 0) (.slice none 0 0)
        rw [hwf] at g XF
        have r0 := cell_blk XF 0
        have r1 := cell_blk XF 1
        have r2 := cell_blk XF 2
        have r3 := cell_blk XF 3
        refine bodyPost_ret (v := .agg #[.int .u8 0, .string bd, .slice none 0 0, .slice none 0 0]) (by simp [results, Tryz.results25, go_sem, r0, r1, r2, r3]) rfl ⟨⟨⟨0, bd, [], 0⟩, none, 0, 0, none, 0⟩, rfl, Lib.hid ?_, Lib.hid ?_, Lib.hid ?_⟩
        · rw [HE.out]; exact HI.out.rd.grown g (fun q e => by cases e; have := HI.out.ne; omega)
        · exact grown_new HI.out.gr g (Nat.le_of_eq HI.out.lo)
        · rw [HE.out]
          have hx := ex_leaf' (only (frB W.heap.size) wf) wd HWB.out
          rw [HBD.out] at hx
          exact hx.more (by omega)
  · have HSB : Hid (BG = ⟨s.at_, s.parts + 1, s.wrong⟩) := Lib.hid (by
      rw [← HBG.out]; unfold Lx.begun; rw [if_neg (fun e => ca e.1)])
    have cu : (s.wrong == 0) = false := by simpa using ca
    obtain ⟨x, hx⟩ : ∃ x, s.wrong = x := ⟨_, rfl⟩
    have HI : Hid (PtI w0 W w1 rb b ao n c l ⟨s.at_, s.parts, x⟩) := Lib.hid (by rw [← hx]; exact HI.out)
    rw [hx] at HSB cu c3
    clear HBG ca hx
    go_enter Tryz.func25, Tryz.ntmps25
    go_upto_region 1 with fail
    clear hw1 hb
    go_upto_region 3 with fail
    obtain ⟨w3, hw3⟩ : ∃ z, w1 = z := ⟨_, rfl⟩
    rw [hw3] at HI ⊢
    clear hw3 c3 HK cu
    have c2 := HI.out.rd.cells.2.2.1
    have f2 := blk_free HI.out.rd.box 2
    dsimp only at c2
    rw [hpt] at c2
    go_upto_region 4 with fail
    have HG4 := Lib.hid (grow_cell w3 ⟨rb, 2, none⟩ (.int .i64 ((pt : Int) + 1)))
    have HR4 : Hid (Rd w0 (w3.setCell ⟨rb, 2, none⟩ (.int .i64 ((pt : Int) + 1))) rb ao n c l BG) := Lib.hid (by
      have := HI.out.rd.part (pt + 1)
      rw [HSB.out, hpt]
      exact this)
    obtain ⟨w4, hw4⟩ : ∃ z, w3.setCell ⟨rb, 2, none⟩ (.int .i64 ((pt : Int) + 1)) = z := ⟨_, rfl⟩
    rw [hw4] at HG4 HR4 ⊢
    have HI := Lib.hid (HI.out.step HR4.out HG4.out)
    clear hw4 HR4 HG4 c2 f2 HSB hpt
    have HN := Lib.hid (pname_any w0 w4 rb ao n c l BG HI.out.rd)
    have HWB := Lib.hid (Lx.name_B HTB.out BG)
    have HPX : Hid (Lx.partX l k BG = if (Lx.name l BG).2.wrong = 0 ∧ Lx.opN (Lx.name l BG).1 ≠ 0 ∧ Lx.isMk l (Lx.name l BG).2.at_ [40] = true then Lx.operands l (Lx.part l (k - 1)) (Lx.opN (Lx.name l BG).1) (Lx.name l BG).2 else (Lx.leaf (Lx.name l BG).1, (Lx.name l BG).2)) := Lib.hid rfl
    obtain ⟨⟨wd, sN⟩, hn⟩ : ∃ z, Lx.name l BG = z := ⟨_, rfl⟩
    rw [hn] at HN HWB HPX HPQ HNZ
    dsimp only at HN HWB HPX HPQ HNZ
    have HOP := Lib.hid (fun w5 (q : Tabw w5) => op_any ⟨wd.toArray⟩ w5 q)
    rw [show (⟨wd.toArray⟩ : ByteArray).data.toList = wd by simp] at HOP
    have HON := Lib.hid (opN_lt wd)
    obtain ⟨on, hon⟩ : ∃ z, Lx.opN wd = z := ⟨_, rfl⟩
    rw [hon] at HOP HON HPX
    obtain ⟨bd, hbd⟩ : ∃ z : ByteArray, ⟨wd.toArray⟩ = z := ⟨_, rfl⟩
    have HBD := Lib.hid hbd
    rw [hbd] at HN HOP
    clear hn hon hbd
    go_wp2_with fail
    (with_reducible refine HN.out.mono ?_)
    rintro e w5 ⟨rfl, HR5, HG5⟩
    have HI := Lib.hid (HI.out.step HR5.out HG5.out)
    have HOP := Lib.hid (HOP.out w5 (HTW.out.keep HI.out.rd.bw))
    clear HR5 HG5 HN
    go_wp2_with fail
    (with_reducible refine HOP.out.mono ?_)
    rintro e w6 ⟨rfl, rfl⟩
    clear HOP
    have c3 := HI.out.rd.cells.2.2.2
    by_cases ca : sN.wrong = 0
    · rw [ca] at c3
      have h30 : ((0 : Int) != 0) = false := rfl
      by_cases cb : on = 0
      · have HE : Hid (Lx.partX l k BG = (Lx.leaf wd, sN)) := Lib.hid (by rw [HPX.out, if_neg (fun e => e.2.1 cb)])
        subst cb
        rw [show decide ((0 : Nat) ≠ 0) = false from rfl]
        clear ca HPX
        have d0 := cell_blk HI.out.res 0
        have d1 := cell_blk HI.out.res 1
        have d2 := cell_blk HI.out.res 2
        have d3 := cell_blk HI.out.res 3
        have g0 := blk_free HI.out.res 0
        have g1 := blk_free HI.out.res 1
        have g2 := blk_free HI.out.res 2
        have g3 := blk_free HI.out.res 3
        go_wp2
        obtain ⟨wf, hwf⟩ : ∃ z, put4 w5 b (.int .u8 0) (.string bd) (.slice none 0 0) (.slice none 0 0) = z := ⟨_, rfl⟩
        have hwf' := hwf
        unfold put4 at hwf'
        rw [hwf']
        have XF := put4_on HI.out.res (.int .u8 0) (.string bd) (.slice none 0 0) (.slice none 0 0)
        have g := put4_grown w5 b (.int .u8 0) (.string bd) (.slice none 0 0) (.slice none 0 0)
        rw [hwf] at g XF
        have r0 := cell_blk XF 0
        have r1 := cell_blk XF 1
        have r2 := cell_blk XF 2
        have r3 := cell_blk XF 3
        refine bodyPost_ret (v := .agg #[.int .u8 0, .string bd, .slice none 0 0, .slice none 0 0]) (by simp [results, Tryz.results25, go_sem, r0, r1, r2, r3]) rfl ⟨⟨⟨0, bd, [], 0⟩, none, 0, 0, none, 0⟩, rfl, Lib.hid ?_, Lib.hid ?_, Lib.hid ?_⟩
        · rw [HE.out]; exact HI.out.rd.grown g (fun q e => by cases e; have := HI.out.ne; omega)
        · exact grown_new HI.out.gr g (Nat.le_of_eq HI.out.lo)
        · rw [HE.out]
          have hx := ex_leaf' (only (frB W.heap.size) wf) wd HWB.out
          rw [HBD.out] at hx
          exact hx.more (by omega)
      · rw [show decide (on ≠ 0) = true from decide_eq_true cb]
        have HM := Lib.hid (isMark_any w0 w5 rb ao n c l sN [40] HI.out.rd _ rfl)
        have HKK : Hid (k ≠ 0) := Lib.hid (fun e => HNZ.out e ca)
        cases cc : Lx.isMk l sN.at_ [40] with
        | false =>
          have HE : Hid (Lx.partX l k BG = (Lx.leaf wd, sN)) := Lib.hid (by rw [HPX.out, if_neg (fun e => by rw [cc] at e; exact absurd e.2.2 (by decide))])
          rw [cc] at HM
          clear ca HPX cc cb
          go_wp2_with fail
          (with_reducible refine HM.out.mono ?_)
          rintro e w7 ⟨rfl, m7, rfl⟩
          have HI := Lib.hid (HI.out.drew m7)
          obtain ⟨w8, hw8⟩ : ∃ z, w5.drewN m7 = z := ⟨_, rfl⟩
          rw [hw8] at HI ⊢
          clear hw8 c3 HM
          have d0 := cell_blk HI.out.res 0
          have d1 := cell_blk HI.out.res 1
          have d2 := cell_blk HI.out.res 2
          have d3 := cell_blk HI.out.res 3
          have g0 := blk_free HI.out.res 0
          have g1 := blk_free HI.out.res 1
          have g2 := blk_free HI.out.res 2
          have g3 := blk_free HI.out.res 3
          go_wp2
          obtain ⟨wf, hwf⟩ : ∃ z, put4 w8 b (.int .u8 0) (.string bd) (.slice none 0 0) (.slice none 0 0) = z := ⟨_, rfl⟩
          have hwf' := hwf
          unfold put4 at hwf'
          rw [hwf']
          have XF := put4_on HI.out.res (.int .u8 0) (.string bd) (.slice none 0 0) (.slice none 0 0)
          have g := put4_grown w8 b (.int .u8 0) (.string bd) (.slice none 0 0) (.slice none 0 0)
          rw [hwf] at g XF
          have r0 := cell_blk XF 0
          have r1 := cell_blk XF 1
          have r2 := cell_blk XF 2
          have r3 := cell_blk XF 3
          refine bodyPost_ret (v := .agg #[.int .u8 0, .string bd, .slice none 0 0, .slice none 0 0]) (by simp [results, Tryz.results25, go_sem, r0, r1, r2, r3]) rfl ⟨⟨⟨0, bd, [], 0⟩, none, 0, 0, none, 0⟩, rfl, Lib.hid ?_, Lib.hid ?_, Lib.hid ?_⟩
          · rw [HE.out]; exact HI.out.rd.grown g (fun q e => by cases e; have := HI.out.ne; omega)
          · exact grown_new HI.out.gr g (Nat.le_of_eq HI.out.lo)
          · rw [HE.out]
            have hx := ex_leaf' (only (frB W.heap.size) wf) wd HWB.out
            rw [HBD.out] at hx
            exact hx.more (by omega)
        | true =>
          have HE : Hid (Lx.partX l k BG = Lx.operands l (Lx.part l (k - 1)) on sN) := Lib.hid (by rw [HPX.out, if_pos ⟨ca, cb, cc⟩])
          rw [cc] at HM
          clear ca HPX cc cb
          go_wp2_with fail
          (with_reducible refine HM.out.mono ?_)
          rintro e w7 ⟨rfl, m7, rfl⟩
          have HI := Lib.hid (HI.out.drew m7)
          obtain ⟨w8, hw8⟩ : ∃ z, w5.drewN m7 = z := ⟨_, rfl⟩
          rw [hw8] at HI ⊢
          clear hw8 c3 HM
          have HO := Lib.hid (operands_any w0 rb ao n c l HTB.out HTT.out (k - 1) (HIH.out HKK.out) (by omega) w8 on HON.out sN HI.out.rd HPQ.out)
          rw [show (40 : Int) - ((k - 1 : Nat) : Int) = 41 - (k : Int) by have := HKK.out; omega, show k - 1 + 2 = k + 1 by have := HKK.out; omega] at HO
          go_wp2_with fail
          (with_reducible refine HO.out.mono ?_)
          rintro e w9 ⟨⟨⟨zo, znm, znu, zk⟩, zan, znn, znc, zaa, zac⟩, rfl, HR9, HG9, HX9⟩
          have HLW := Lib.hid HI.out.lo
          have HS8 := Lib.hid HI.out.gr.size
          have HL8 := Lib.hid (Array.getElem?_eq_some_iff.1 HI.out.res).1
          have HI := Lib.hid (HI.out.step HR9.out HG9.out)
          clear HO HR9 HG9
          have d0 := cell_blk HI.out.res 0
          have d1 := cell_blk HI.out.res 1
          have d2 := cell_blk HI.out.res 2
          have d3 := cell_blk HI.out.res 3
          have g0 := blk_free HI.out.res 0
          have g1 := blk_free HI.out.res 1
          have g2 := blk_free HI.out.res 2
          have g3 := blk_free HI.out.res 3
          go_wp2
          obtain ⟨wf, hwf⟩ : ∃ z, put4 w9 b (.int .u8 zo) (.string znm) (.slice zan znn znc) (.slice zaa zk zac) = z := ⟨_, rfl⟩
          have hwf' := hwf
          unfold put4 at hwf'
          rw [hwf']
          have XF := put4_on HI.out.res (.int .u8 zo) (.string znm) (.slice zan znn znc) (.slice zaa zk zac)
          have g := put4_grown w9 b (.int .u8 zo) (.string znm) (.slice zan znn znc) (.slice zaa zk zac)
          rw [hwf] at g XF
          have r0 := cell_blk XF 0
          have r1 := cell_blk XF 1
          have r2 := cell_blk XF 2
          have r3 := cell_blk XF 3
          refine bodyPost_ret (v := .agg #[.int .u8 zo, .string znm, .slice zan znn znc, .slice zaa zk zac]) (by simp [results, Tryz.results25, go_sem, r0, r1, r2, r3]) rfl ⟨⟨⟨zo, znm, znu, zk⟩, zan, znn, znc, zaa, zac⟩, rfl, Lib.hid ?_, Lib.hid ?_, Lib.hid ?_⟩
          · rw [HE.out]; exact HI.out.rd.grown g (fun q e => by cases e; have := HI.out.ne; omega)
          · exact grown_new HI.out.gr g (Nat.le_of_eq HI.out.lo)
          · rw [HE.out]
            refine HX9.out.sub (only_sub (fun q e lt => ⟨frB_le (by have := le_frB e; have := HS8.out; omega), g.block q lt (fun e' => ?_)⟩))
            have := le_frB e
            cases e'
            have := HL8.out
            omega
    · have HE : Hid (Lx.partX l k BG = (Lx.leaf wd, sN)) := Lib.hid (by rw [HPX.out, if_neg (fun e => ca e.1)])
      have h30 : (sN.wrong != 0) = true := by simpa using ca
      obtain ⟨xx, hxx⟩ : ∃ z, sN.wrong = z := ⟨_, rfl⟩
      rw [hxx] at c3 h30
      clear ca HPX hxx
      have d0 := cell_blk HI.out.res 0
      have d1 := cell_blk HI.out.res 1
      have d2 := cell_blk HI.out.res 2
      have d3 := cell_blk HI.out.res 3
      have g0 := blk_free HI.out.res 0
      have g1 := blk_free HI.out.res 1
      have g2 := blk_free HI.out.res 2
      have g3 := blk_free HI.out.res 3
      go_wp2
      obtain ⟨wf, hwf⟩ : ∃ z, put4 w5 b (.int .u8 0) (.string bd) (.slice none 0 0) (.slice none 0 0) = z := ⟨_, rfl⟩
      have hwf' := hwf
      unfold put4 at hwf'
      rw [hwf']
      have XF := put4_on HI.out.res (.int .u8 0) (.string bd) (.slice none 0 0) (.slice none 0 0)
      have g := put4_grown w5 b (.int .u8 0) (.string bd) (.slice none 0 0) (.slice none 0 0)
      rw [hwf] at g XF
      have r0 := cell_blk XF 0
      have r1 := cell_blk XF 1
      have r2 := cell_blk XF 2
      have r3 := cell_blk XF 3
      refine bodyPost_ret (v := .agg #[.int .u8 0, .string bd, .slice none 0 0, .slice none 0 0]) (by simp [results, Tryz.results25, go_sem, r0, r1, r2, r3]) rfl ⟨⟨⟨0, bd, [], 0⟩, none, 0, 0, none, 0⟩, rfl, Lib.hid ?_, Lib.hid ?_, Lib.hid ?_⟩
      · rw [HE.out]; exact HI.out.rd.grown g (fun q e => by cases e; have := HI.out.ne; omega)
      · exact grown_new HI.out.gr g (Nat.le_of_eq HI.out.lo)
      · rw [HE.out]
        have hx := ex_leaf' (only (frB W.heap.size) wf) wd HWB.out
        rw [HBD.out] at hx
        exact hx.more (by omega)
theorem part_any (w0 : World) (rb : Nat) (ao : Option Addr) (n c : Nat) (l : List Lx.Tk) (hB : Lx.TkB l) (hT : Tabn w0) (hW : Tabw w0) : ∀ (k : Nat), k ≤ 40 → PartOk w0 rb ao n c l k := by
  intro k
  induction k with
  | zero => exact fun hk => part_step w0 rb ao n c l hB hT hW 0 hk (fun h => absurd rfl h)
  | succ k ih => exact fun hk => part_step w0 rb ao n c l hB hT hW (k + 1) hk (fun _ => ih (by omega))
end Go.Proofs.YtimjendkpjojoaaGreatDoor
