/- Count; how deep what is met lies. -/
import Derived.Test.YtimjendkpjojoaaDoorV2
import Derived.Shelf.Abstract
namespace Go.Proofs.YtimjendkpjojoaaDoor
set_option linter.unusedVariables false
set_option linter.unusedSimpArgs false
open Go.ChangeShapes Go.WideShapes Go.ChangeAt Go.RowKit

/-- How deep what is met lies. -/
theorem ex_near {w : World} : ∀ {n : Nat} {v : Value} {F : Tour}, ExAt w n v F → ∀ d, ∀ x ∈ F d, d ≤ x.2 ∧ x.2 < d + (F d).length
  | 0, _, _, h => h.elim
  | n + 1, v, F, h => by
    obtain ⟨p, an, nn, nc, aa, ac, Fs, rfl, hh, hl, rfl, hc⟩ := h
    intro d x hx
    have hx : x ∈ (p, d) :: flat Fs (d + 1) := hx
    have hlen : ((fun d => (p, d) :: flat Fs (d + 1)) d).length = 1 + (flat Fs (d + 1)).length := by simp; omega
    rw [hlen]
    rcases List.mem_cons.1 hx with rfl | hx
    · exact ⟨by simp, by simp; omega⟩
    · unfold flat at hx
      obtain ⟨L, hL, hx⟩ := List.mem_flatten.1 hx
      obtain ⟨G, hG, rfl⟩ := List.mem_map.1 hL
      obtain ⟨i, hi, rfl⟩ := List.getElem_of_mem hG
      obtain ⟨b, q, _, hr⟩ := hc (by omega)
      obtain ⟨x0, x1, x2, x3, _, _, _, _, hr⟩ := hr i hi
      have k := ex_near hr (d + 1) x hx
      have hle : (Fs[i] (d + 1)).length ≤ (flat Fs (d + 1)).length := by
        have e1 : flat (Fs.take (i + 1)) (d + 1) = flat (Fs.take i) (d + 1) ++ Fs[i] (d + 1) := by rw [List.take_succ_eq_append_getElem hi, flat_snoc]
        have e2 : (flat Fs (d + 1)).length = (flat (Fs.take (i + 1)) (d + 1)).length + (flat (Fs.drop (i + 1)) (d + 1)).length := by rw [← List.length_append, ← flat_app, List.take_append_drop]
        rw [e1, List.length_append] at e2
        omega
      omega
theorem wl_same {w : World} {n : Nat} {v : Value} {F : Tour} (h : ExAt w n v F) (hl : (F 1).length ≤ 2000) : wl (F 1) = F 1 := by
  unfold wl
  have : ∀ x ∈ F 1, (x.1, wrap64 x.2) = x := fun x hx => by
    have := ex_near h 1 x hx
    have e : wrap64 x.2 = x.2 := by unfold wrap64; omega
    rw [e]
  have e := List.map_congr_left (f := fun x : Pt × Int => (x.1, wrap64 x.2)) (g := id) (l := F 1) this
  rw [e, List.map_id]
def cntW (c : Int) (p : Pt) (d : Int) : Int × Bool := (wrap64 (c + 1), true)
theorem cntW_run : ∀ (l : List (Pt × Int)) (c : Int), 0 ≤ c → c + l.length ≤ 9223372036854775807 → run cntW c l = (c + l.length, true)
  | [], c, _, _ => by simp [run]
  | x :: r, c, h0, h1 => by
    have h2 : c + 1 + (r.length : Int) ≤ 9223372036854775807 := by simp at h1; omega
    have hw : wrap64 (c + 1) = c + 1 := by unfold wrap64; omega
    rw [run_t rfl]
    show run cntW (wrap64 (c + 1)) r = _
    rw [hw, cntW_run r (c + 1) (by omega) h2]
    simp; omega
/-- A cell of a number, of a visitor's own. -/
structure CellI (w0 : World) (nb : Nat) (c : Int) (W : World) : Prop where
  bw : Below w0.heap.size w0 W
  lo : w0.heap.size ≤ nb
  cell : W.heap[nb]? = some (.cells #[.int .i64 c] 3 (0, 0))
theorem CellI.keep {w0 W W' : World} {nb : Nat} {c : Int} (h : CellI w0 nb c W) (q : Below W.heap.size W W') : CellI w0 nb c W' :=
  ⟨h.bw.trans (q.mono h.bw.size), h.lo, (q.block nb (Array.getElem?_eq_some_iff.1 h.cell).1).trans h.cell⟩
theorem CellI.put {w0 W : World} {nb : Nat} {c : Int} (h : CellI w0 nb c W) (x : Int) : CellI w0 nb x (W.setCell ⟨nb, 0, none⟩ (.int .i64 x)) :=
  ⟨h.bw.setCell (p := ⟨nb, 0, none⟩) h.lo _, h.lo, by rw [set_block h.cell]; rfl⟩
set_option maxHeartbeats 1000000 in
theorem cnt_step (w0 : World) (nb : Nat) (LIM : Nat) : StepOk cntW (CellI w0 nb) 34 #[.pointer (some ⟨nb, 0, none⟩)] w0 (fun _ => 0) LIM := by
  intro c W p an nn nc aa ac d hh d1 d2 hI _
  show Calls Tryd.prog 34 #[.agg #[.int .u8 p.op, .string p.nm, .slice an nn nc, .slice aa p.k ac], .int .i64 d, .pointer (some ⟨nb, 0, none⟩)] W _
  obtain ⟨w1, hw1⟩ : ∃ z, W.alloc (.cells #[.int .u8 p.op, .string p.nm, .slice an nn nc, .slice aa p.k ac] 25) = z := ⟨_, rfl⟩
  have KA : Below W.heap.size W w1 := by rw [← hw1]; exact (Below.refl _ W).alloc (Nat.le_refl _) _
  have HI := Lib.hid (hI.keep KA)
  have KK := Lib.hid (Kp.of_below KA)
  clear KA hI hh
  have e0 := cell_blk HI.out.cell 0
  have f0 := blk_free HI.out.cell 0
  go_enter Tryd.func34, Tryd.ntmps34
  go_wp2
  go_returns
  refine ⟨rfl, Lib.hid ?_, ?_⟩
  · exact HI.out.put (wrap64 (c + 1))
  · exact Lib.hid (KK.out.trans (Kp.set HI.out.cell (by decide) (by decide) 0 _))
theorem enters28 : ∀ (args : Array Value) (w : World), (callFunc 34 args).run Tryd.prog w = .ok (.enter 34 args) w := enters_of Tryd.func34 (by kernel_rfl) rfl
set_option maxHeartbeats 1000000 in
theorem count_any (n : Nat) (v : Value) (F : Tour) (w : World) (hF : ExAt w n v F) :
    Calls Tryd.prog 13 #[v] w fun e w' => e = .returned (.int .i64 (run cntW 0 (wl (F 1))).1) ∧ Below w.heap.size w w' := by
  obtain ⟨nb, hnb⟩ : ∃ z, w.heap.size + 1 = z := ⟨_, rfl⟩
  have HV := Lib.hid (fun s W h => visit_any cntW (CellI w nb) 34 #[.pointer (some ⟨nb, 0, none⟩)] w (fun s W h => h.bw) (fun s W W' h q => h.keep q) (fun _ => 0) ((F 1).length + 1) (fun _ _ _ => Nat.zero_le _) (cnt_step w nb _) enters28 n v F hF s W (by omega) h)
  obtain ⟨p, an, nn, nc, aa, ac, rfl, _⟩ := hF.head
  have HR : Hid ((run cntW 0 (wl (F 1))).1 = (run cntW 0 (wl (F 1))).1) := Lib.hid rfl
  obtain ⟨L, hL⟩ : ∃ L, (run cntW 0 (wl (F 1))).1 = L := ⟨_, rfl⟩
  rw [hL] at HR ⊢
  obtain ⟨bx, hbx⟩ : ∃ z, w.heap.size = z := ⟨_, rfl⟩
  clear hF
  go_enter Tryd.func13, Tryd.ntmps13
  go_upto_region 2 with fail
  obtain ⟨w1, hw1⟩ : ∃ z, (w.alloc (.cells #[.int .u8 p.op, .string p.nm, .slice an nn nc, .slice aa p.k ac] 25)).alloc (.cells #[.int .i64 0] 3) = z := ⟨_, rfl⟩
  have X1 : Hid (w1.heap[bx]? = some (.cells #[.int .u8 p.op, .string p.nm, .slice an nn nc, .slice aa p.k ac] 25 (0, 0))) := Lib.hid (by rw [← hw1, al_old _ _ (by simp; omega), ← hbx, al_new])
  have HI : Hid (CellI w nb 0 w1) := Lib.hid ⟨by rw [← hw1]; exact ((Below.refl _ w).alloc (Nat.le_refl _) _).alloc (by simp) _, by omega, by rw [← hw1, show nb = (w.alloc (.cells #[.int .u8 p.op, .string p.nm, .slice an nn nc, .slice aa p.k ac] 25)).heap.size by simp; omega, al_new]⟩
  have hn2 : nb = bx + 1 := by omega
  have HC := Lib.hid (HV.out 0 w1 HI.out)
  rw [hL] at HC
  subst hn2
  clear HV HR hL hnb
  rw [hw1]
  have BX := Lib.hid HI.out.bw
  have e0 := cell_blk X1.out 0
  have e1 := cell_blk X1.out 1
  have e2 := cell_blk X1.out 2
  have e3 := cell_blk X1.out 3
  clear hw1 hbx HI
  go_wp2_with fail
  (with_reducible refine HC.out.mono ?_)
  rintro e w3 ⟨rfl, HI, K3⟩
  have n0 := cell_blk HI.out.cell 0
  have HF := Lib.hid HI.out.bw
  clear HC K3 e0 e1 e2 e3 HI BX
  go_wp2
  go_returns
  exact ⟨rfl, HF.out⟩

theorem count_small {w : World} {n : Nat} {v : Value} {F : Tour} (h : ExAt w n v F) (hl : (F 1).length ≤ 2000) : (run cntW 0 (wl (F 1))).1 = ((F 1).length : Int) := by
  rw [wl_same h hl, cntW_run _ 0 (by omega) (by omega)]; simp
end Go.Proofs.YtimjendkpjojoaaDoor
