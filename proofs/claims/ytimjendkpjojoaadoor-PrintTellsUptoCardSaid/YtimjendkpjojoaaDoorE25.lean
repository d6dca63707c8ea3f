/- The document's own answer for layer 9: Same. -/
import Derived.Test.YtimjendkpjojoaaDoorE23
namespace Go.Proofs.YtimjendkpjojoaaDoor
set_option linter.unusedVariables false
set_option linter.unusedSimpArgs false
open Go.ChangeShapes Go.WideShapes Go.ChangeAt Go.RowKit
theorem nm_inj (a b : ByteArray) : a.toList = b.toList ↔ a = b := by
  rw [ByteArray.toList_eq, ByteArray.toList_eq]
  constructor
  · intro h
    cases a; cases b
    simp only at h
    rw [Array.toList_inj] at h
    rw [h]
  · rintro rfl; rfl
theorem flats_pref {P Q : Tour → Prop} (ih : ∀ F G, P F → Q G → ∀ d A B, F d ++ A = G d ++ B → F = G ∧ A = B) : ∀ (Fs Gs : List Tour), Fs.length = Gs.length → (∀ F ∈ Fs, P F) → (∀ G ∈ Gs, Q G) → ∀ d A B, flat Fs d ++ A = flat Gs d ++ B → Fs = Gs ∧ A = B
  | [], [], _, _, _, d, A, B, h => ⟨rfl, by simpa [flat] using h⟩
  | [], _ :: _, h, _, _, _, _, _, _ => by cases h
  | _ :: _, [], h, _, _, _, _, _, _ => by cases h
  | F :: Fs, G :: Gs, hl, hp, hq, d, A, B, h => by
    have e1 : flat (F :: Fs) d = F d ++ flat Fs d := by simp [flat]
    have e2 : flat (G :: Gs) d = G d ++ flat Gs d := by simp [flat]
    rw [e1, e2, List.append_assoc, List.append_assoc] at h
    obtain ⟨rfl, h1⟩ := ih F G (hp F (List.mem_cons_self ..)) (hq G (List.mem_cons_self ..)) d _ _ h
    obtain ⟨rfl, h2⟩ := flats_pref ih Fs Gs (by simpa using hl) (fun F h => hp F (List.mem_cons_of_mem _ h)) (fun F h => hq F (List.mem_cons_of_mem _ h)) d A B h1
    exact ⟨rfl, h2⟩
theorem exs_of {w : World} {n : Nat} {k : Nat} {aa : Option Addr} {Fs : List Tour} (hk : Fs.length = k) (hc : 0 < k → ∃ b q, aa = some (⟨b, q, none⟩ : Addr) ∧ ∀ i (h : i < Fs.length), ∃ x0 x1 x2 x3, w.cell? ⟨b, q + i * 4, none⟩ = some x0 ∧ w.cell? ⟨b, q + i * 4 + 1, none⟩ = some x1 ∧ w.cell? ⟨b, q + i * 4 + 2, none⟩ = some x2 ∧ w.cell? ⟨b, q + i * 4 + 3, none⟩ = some x3 ∧ ExAt w n (.agg #[x0, x1, x2, x3]) Fs[i]) : ∀ F ∈ Fs, ∃ v, ExAt w n v F := by
  intro F hF
  obtain ⟨i, hi, rfl⟩ := List.getElem_of_mem hF
  obtain ⟨b, q, _, h⟩ := hc (by omega)
  obtain ⟨x0, x1, x2, x3, _, _, _, _, h⟩ := h i hi
  exact ⟨_, h⟩
theorem tour_pref {w w' : World} : ∀ (n m : Nat) (F G : Tour), (∃ v, ExAt w n v F) → (∃ v, ExAt w' m v G) → ∀ d A B, F d ++ A = G d ++ B → F = G ∧ A = B
  | 0, _, _, _, ⟨_, h⟩, _, _, _, _, _ => h.elim
  | _ + 1, 0, _, _, _, ⟨_, h⟩, _, _, _, _ => h.elim
  | n + 1, m + 1, F, G, ⟨v, h⟩, ⟨v', h'⟩, d, A, B, e => by
    obtain ⟨p, an, nn, nc, aa, ac, Fs, rfl, hh, hk, rfl, hc⟩ := h
    obtain ⟨q, am, mm, mc, ab, ad, Gs, rfl, hg, hj, rfl, hd⟩ := h'
    have e' : (p, d) :: (flat Fs (d + 1) ++ A) = (q, d) :: (flat Gs (d + 1) ++ B) := e
    injection e' with e1 e2
    injection e1 with e1 _
    subst e1
    obtain ⟨rfl, e3⟩ := flats_pref (fun F G hF hG => tour_pref n m F G hF hG) Fs Gs (hk.trans hj.symm) (exs_of hk hc) (exs_of hj hd) (d + 1) A B e2
    exact ⟨rfl, e3⟩
theorem tours_eq {w w' : World} {n m : Nat} {p q : Pt} {Fs Gs : List Tour} (hk : Fs.length = p.k) (hj : Gs.length = q.k) (hF : ∀ F ∈ Fs, ∃ v, ExAt w n v F) (hG : ∀ F ∈ Gs, ∃ v, ExAt w' m v F) : ((fun d => (p, d) :: flat Fs (d + 1)) : Tour) = (fun d => (q, d) :: flat Gs (d + 1)) ↔ p = q ∧ Fs = Gs := by
  constructor
  · intro h
    have e := congrFun h 0
    injection e with e1 e2
    injection e1 with e1 _
    refine ⟨e1, ?_⟩
    subst e1
    exact (flats_pref (fun F G hF hG => tour_pref n m F G hF hG) Fs Gs (hk.trans hj.symm) hF hG (0 + 1) [] [] (by simpa using e2)).1
  · rintro ⟨rfl, rfl⟩; rfl
theorem pt_eq (p q : Pt) : p = q ↔ p.op = q.op ∧ p.nm = q.nm ∧ p.nums = q.nums ∧ p.k = q.k := by
  constructor
  · rintro rfl; exact ⟨rfl, rfl, rfl, rfl⟩
  · intro h
    cases p; cases q
    obtain ⟨h1, h2, h3, h4⟩ := h
    simp only at h1 h2 h3 h4
    subst h1 h2 h3 h4
    rfl
/-- What makes two expressions the same. -/
def SameP (p q : Pt) (Fs Gs : List Tour) : Prop := p.op = q.op ∧ p.nm = q.nm ∧ p.nums = q.nums ∧ p.k = q.k ∧ Fs = Gs
theorem same_iff {w w' : World} {n m : Nat} {p q : Pt} {Fs Gs : List Tour} (hk : Fs.length = p.k) (hj : Gs.length = q.k) (hF : ∀ F ∈ Fs, ∃ v, ExAt w n v F) (hG : ∀ F ∈ Gs, ∃ v, ExAt w' m v F) : ((fun d => (p, d) :: flat Fs (d + 1)) : Tour) = (fun d => (q, d) :: flat Gs (d + 1)) ↔ SameP p q Fs Gs := by
  rw [tours_eq hk hj hF hG, pt_eq]; unfold SameP
  exact ⟨fun h => ⟨h.1.1, h.1.2.1, h.1.2.2.1, h.1.2.2.2, h.2⟩, fun h => ⟨⟨h.1, h.2.1, h.2.2.1, h.2.2.2.1⟩, h.2.2.2.2⟩⟩
/-- Two boxes. -/
structure Bx2 (w0 w : World) (b : Nat) (cs ds : Array Value) : Prop where
  bw : Below w0.heap.size w0 w
  b1 : w.heap[b]? = some (.cells cs 25 (0, 0))
  b2 : w.heap[b + 1]? = some (.cells ds 25 (0, 0))
theorem Bx2.keep {w0 w w' : World} {b : Nat} {cs ds : Array Value} (h : Bx2 w0 w b cs ds) (q : Below w.heap.size w w') : Bx2 w0 w' b cs ds := ⟨h.bw.trans (q.mono h.bw.size), (q.block b (Array.getElem?_eq_some_iff.1 h.b1).1).trans h.b1, (q.block (b + 1) (Array.getElem?_eq_some_iff.1 h.b2).1).trans h.b2⟩
set_option maxRecDepth 8000 in
set_option maxHeartbeats 4000000 in
theorem rsame_any : ∀ (n : Nat) (v : Value) (F : Tour) (m : Nat) (v' : Value) (G : Tour) (w : World), ExAt w n v F → ExAt w m v' G → ∀ (r : Bool), (r = true ↔ F = G) → Calls Tryd.prog 32 #[v, v'] w fun e w' => e = .returned (.bool r) ∧ Below w.heap.size w w'
  | 0, _, _, _, _, _, _, h, _, _, _ => h.elim
  | _ + 1, _, _, 0, _, _, _, _, h, _, _ => h.elim
  | n + 1, v, F, m + 1, v', G, w, h, h', r, hr0 => by
    have IH := Lib.hid (fun v F v' G w h h' r hr => rsame_any n v F m v' G w h h' r hr)
    obtain ⟨p, an, nn, nc, aa, ac, Fs, rfl, hh, hk, rfl, hc⟩ := h
    obtain ⟨q, am, mm, mc, ab, ad, Gs, rfl, hg, hj, rfl, hd⟩ := h'
    unfold pv
    have HR := Lib.hid (hr0.trans (same_iff hk hj (exs_of hk hc) (exs_of hj hd)))
    have HC := Lib.hid hc
    have HK := Lib.hid hk
    have HD := Lib.hid hd
    have HJ := Lib.hid hj
    have k0 : (0 : Int) ≤ (p.k : Int) := by omega
    have k1 : (p.k : Int) ≤ 9223372036854775807 := by have := hh.le; have := hh.top; omega
    have l0 : (0 : Int) ≤ (q.k : Int) := by omega
    have l1 : (q.k : Int) ≤ 9223372036854775807 := by have := hg.le; have := hg.top; omega
    have n0 : (0 : Int) ≤ (nn : Int) := by omega
    have n1 : (nn : Int) ≤ 9223372036854775807 := by have := hh.nums.le; have := hh.nums.top; omega
    have m0 : (0 : Int) ≤ (mm : Int) := by omega
    have m1 : (mm : Int) ≤ 9223372036854775807 := by have := hg.nums.le; have := hg.nums.top; omega
    have HN1 := Lib.hid hh.nums
    have HN2 := Lib.hid hg.nums
    obtain ⟨b, hb⟩ : ∃ z, w.heap.size = z := ⟨_, rfl⟩
    obtain ⟨w1, hw1⟩ : ∃ z, (w.alloc (.cells #[.int .u8 p.op, .string p.nm, .slice an nn nc, .slice aa p.k ac] 25)).alloc (.cells #[.int .u8 q.op, .string q.nm, .slice am mm mc, .slice ab q.k ad] 25) = z := ⟨_, rfl⟩
    have HX : Hid (Bx2 w w1 b #[.int .u8 p.op, .string p.nm, .slice an nn nc, .slice aa p.k ac] #[.int .u8 q.op, .string q.nm, .slice am mm mc, .slice ab q.k ad]) := Lib.hid ⟨by rw [← hw1]; exact ((Below.refl _ w).alloc (Nat.le_refl _) _).alloc (by simp) _, by rw [← hw1, al_old _ _ (by simp; omega), ← hb, al_new], by rw [← hw1, show b + 1 = (w.alloc (.cells #[.int .u8 p.op, .string p.nm, .slice an nn nc, .slice aa p.k ac] 25)).heap.size by simp; omega, al_new]⟩
    have hb1 : (w.alloc (.cells #[.int .u8 p.op, .string p.nm, .slice an nn nc, .slice aa p.k ac] 25)).heap.size = b + 1 := by simp; omega
    clear hc hk hd hj hr0 hh hg
    have e0 := cell_blk HX.out.b1 0
    have e1 := cell_blk HX.out.b1 1
    have e2 := cell_blk HX.out.b1 2
    have e3 := cell_blk HX.out.b1 3
    have f0 := cell_blk HX.out.b2 0
    have f1 := cell_blk HX.out.b2 1
    have f2 := cell_blk HX.out.b2 2
    have f3 := cell_blk HX.out.b2 3
    go_enter Tryd.func32, Tryd.ntmps32
    go_upto_region 1 with fail
    clear hw1 hb hb1
    by_cases o1 : p.op = q.op
    · have t1 : (p.op != q.op) = false := by simp [o1]
      by_cases n1e : p.nm = q.nm
      · have t2 : p.nm.toList = q.nm.toList := (nm_inj _ _).2 n1e
        by_cases c1 : nn = mm
        · have t3 : ((nn : Int) != (mm : Int)) = false := by simp; omega
          by_cases c2 : p.k = q.k
          · have t4 : ((p.k : Int) != (q.k : Int)) = false := by simp; omega
            go_upto_region 4 with fail
            clear e0 e1 e2 e3 f0 f1 f2 f3
            go_loopw [5] (fun ii wr => ∃ (j : Nat), j ≤ nn ∧ ii = .int .i64 j ∧ Hid (∀ i, i < j → p.nums[i]? = q.nums[i]?) ∧ Hid (Bx2 w wr b #[.int .u8 p.op, .string p.nm, .slice an nn nc, .slice aa p.k ac] #[.int .u8 q.op, .string q.nm, .slice am mm mc, .slice ab q.k ad])) (fun ii _ => nn - (intOf ii).toNat)
            case atStart => exact ⟨0, Nat.zero_le _, rfl, Lib.hid (fun i hi => absurd hi (Nat.not_lt_zero _)), HX⟩
            case round =>
              clear HX
              obtain ⟨j, hj, rfl, HA, HX⟩ := hrel
              have j0 : (0 : Int) ≤ (j : Int) := by omega
              have e2 := cell_blk HX.out.b1 2
              have f2 := cell_blk HX.out.b2 2
              by_cases jlt : j < nn
              · have j1 : (j : Int) < nn := by omega
                have j2 : (j : Int) < mm := by omega
                obtain ⟨q0, o, rfl, hx⟩ := HN1.out.here (by omega)
                have hx := hx j (by rw [HN1.out.len]; exact jlt)
                obtain ⟨q1, o9, rfl, hy⟩ := HN2.out.here (by omega)
                have hy := hy j (by rw [HN2.out.len]; omega)
                obtain ⟨x, hex⟩ : ∃ x, p.nums[j]'(by rw [HN1.out.len]; exact jlt) = x := ⟨_, rfl⟩
                obtain ⟨y, hey⟩ : ∃ x, q.nums[j]'(by rw [HN2.out.len]; omega) = x := ⟨_, rfl⟩
                rw [hex] at hx
                rw [hey] at hy
                have HG1 : Hid (p.nums[j]? = some x) := Lib.hid (by rw [List.getElem?_eq_getElem (by rw [HN1.out.len]; exact jlt), hex])
                have HG2 : Hid (q.nums[j]? = some y) := Lib.hid (by rw [List.getElem?_eq_getElem (by rw [HN2.out.len]; omega), hey])
                have g0 := cell_keep hx.1 HX.out.bw
                have g1 := cell_keep hy.1 HX.out.bw
                clear hx hy hex hey
                have HX2 : Hid (Bx2 w (wr.drew) b _ _) := Lib.hid (HX.out.keep (Below.refl _ wr).drew)
                by_cases xy : x = y
                · have xt : (x != y) = false := by simp [xy]
                  go_upto_region 6 with fail
                  go_region
                  clear g0 g1 e2 f2
                  go_wp2
                  go_roundw
                  case rel => exact ⟨j + 1, by omega, by go_num, Lib.hid (fun i hi => by
                    by_cases e : i < j
                    · exact HA.out i e
                    · obtain rfl : i = j := by omega
                      rw [HG1.out, HG2.out, xy]), HX2⟩
                  case measure => simp [intOf]; omega
                · have xt : (x != y) = true := by simp [xy]
                  obtain rfl : r = false := by
                    cases r
                    · rfl
                    · exfalso
                      have a := (HR.out.1 rfl).2.2.1
                      have b1 := HG1.out
                      rw [a, HG2.out] at b1
                      injection b1 with b1
                      exact xy b1.symm
                  go_upto_region 6 with fail
                  go_region
                  clear g0 g1 e2 f2
                  go_wp2
                  go_returns
                  exact ⟨rfl, HX2.out.bw⟩
              · have j1 : (nn : Int) ≤ (j : Int) := by omega
                have HNE : Hid (p.nums = q.nums) := Lib.hid (by
                  apply List.ext_getElem?
                  intro i
                  by_cases hi : i < nn
                  · exact HA.out i (by omega)
                  · rw [List.getElem?_eq_none (by rw [HN1.out.len]; omega), List.getElem?_eq_none (by rw [HN2.out.len]; omega)])
                go_upto_region 9 with fail
                clear HA e2 f2 j0 hj jlt j1
                obtain ⟨wo, rfl⟩ : ∃ wo : World, wo = wr := ⟨_, rfl⟩
                have HX2 := HX
                clear HX
                go_loopw [6] (fun ii wr => ∃ (j : Nat), j ≤ p.k ∧ ii = .int .i64 j ∧ Hid (∀ i, i < j → Fs[i]? = Gs[i]?) ∧ Hid (Bx2 w wr b #[.int .u8 p.op, .string p.nm, .slice an nn nc, .slice aa p.k ac] #[.int .u8 q.op, .string q.nm, .slice am mm mc, .slice ab q.k ad])) (fun ii _ => p.k - (intOf ii).toNat)
                case atStart => exact ⟨0, Nat.zero_le _, rfl, Lib.hid (fun i hi => absurd hi (Nat.not_lt_zero _)), HX2⟩
                case round =>
                  clear HX2
                  obtain ⟨j, hj, rfl, HA, HX⟩ := hrel
                  have j0 : (0 : Int) ≤ (j : Int) := by omega
                  have e3 := cell_blk HX.out.b1 3
                  have f3 := cell_blk HX.out.b2 3
                  by_cases jlt : j < p.k
                  · have j1 : (j : Int) < p.k := by omega
                    obtain ⟨q0, o, rfl, hx⟩ := HC.out (by omega)
                    obtain ⟨x0, x1, x2, x3, g0, g1, g2, g3, hr⟩ := hx j (by rw [HK.out]; exact jlt)
                    obtain ⟨q1, o9, rfl, hy⟩ := HD.out (by omega)
                    obtain ⟨y0, y1, y2, y3, h0, h1, h2, h3, hs⟩ := hy j (by rw [HJ.out]; omega)
                    obtain ⟨p2, an2, nn2, nc2, aa2, ac2, ex, hh2⟩ := hr.head
                    cases ex
                    obtain ⟨p3, an3, nn3, nc3, aa3, ac3, ex, hh3⟩ := hs.head
                    cases ex
                    obtain ⟨G, hG⟩ : ∃ G : Tour, Fs[j]'(by rw [HK.out]; exact jlt) = G := ⟨_, rfl⟩
                    obtain ⟨G', hG'⟩ : ∃ G : Tour, Gs[j]'(by rw [HJ.out]; omega) = G := ⟨_, rfl⟩
                    rw [hG] at hr
                    rw [hG'] at hs
                    have HG1 : Hid (Fs[j]? = some G) := Lib.hid (by rw [List.getElem?_eq_getElem (by rw [HK.out]; exact jlt), hG])
                    have HG2 : Hid (Gs[j]? = some G') := Lib.hid (by rw [List.getElem?_eq_getElem (by rw [HJ.out]; omega), hG'])
                    have g0 := cell_keep g0 HX.out.bw
                    have g1 := cell_keep g1 HX.out.bw
                    have g2 := cell_keep g2 HX.out.bw
                    have g3 := cell_keep g3 HX.out.bw
                    have h0 := cell_keep h0 HX.out.bw
                    have h1 := cell_keep h1 HX.out.bw
                    have h2 := cell_keep h2 HX.out.bw
                    have h3 := cell_keep h3 HX.out.bw
                    obtain ⟨r2, hr2⟩ : ∃ r2 : Bool, r2 = true ↔ G = G' := by classical exact ⟨decide _, decide_eq_true_iff⟩
                    have HIH := Lib.hid (fun W (hW : Below w.heap.size w W) => IH.out _ G _ G' W (hr.keep hW) (hs.keep hW) r2 hr2)
                    have HD1 : Hid (Bx2 w wr.drew b _ _) := Lib.hid (HX.out.keep (Below.refl _ wr).drew)
                    have HR2 := Lib.hid hr2
                    clear hr hs hx hy hh2 hh3 hG hG' hr2
                    go_upto_region 11 with fail
                    go_region_with (go_at_call 32; (with_reducible refine (HIH.out _ HD1.out.bw).mono ?_); rintro e w5 ⟨rfl, q⟩; have HX2 := Lib.hid (HD1.out.keep q); clear q HX HD1 HIH g0 g1 g2 g3 h0 h1 h2 h3 e3 f3)
                    all_goals
                      cases r2
                      · obtain rfl : r = false := by
                          cases r
                          · rfl
                          · exfalso
                            have a := (HR.out.1 rfl).2.2.2.2
                            have b1 := HG1.out
                            rw [a, HG2.out] at b1
                            injection b1 with b1
                            have a := HR2.out
                            simp [b1] at a
                        go_wp2
                        go_returns
                        exact ⟨rfl, HX2.out.bw⟩
                      · have HGG : Hid (G = G') := Lib.hid (by have a := HR2.out; simpa using a)
                        go_wp2
                        go_roundw
                        case rel => exact ⟨j + 1, by omega, by go_num, Lib.hid (fun i hi => by
                          by_cases e : i < j
                          · exact HA.out i e
                          · obtain rfl : i = j := by omega
                            rw [HG1.out, HG2.out, HGG.out]), Lib.hid (by have a := HX2.out; rw [o1, n1e, c1, c2] at a; exact a)⟩
                        case measure => simp [intOf]; omega
                  · have j1 : (p.k : Int) ≤ (j : Int) := by omega
                    obtain rfl : r = true := HR.out.2 ⟨o1, n1e, HNE.out, c2, by
                      apply List.ext_getElem?
                      intro i
                      by_cases hi : i < p.k
                      · exact HA.out i (by omega)
                      · rw [List.getElem?_eq_none (by rw [HK.out]; omega), List.getElem?_eq_none (by rw [HJ.out]; omega)]⟩
                    go_wp2
                    go_returns
                    exact ⟨rfl, HX.out.bw⟩
          · have t4 : ((p.k : Int) != (q.k : Int)) = true := by simp; omega
            obtain rfl : r = false := by
              cases r
              · rfl
              · exact absurd (HR.out.1 rfl).2.2.2.1 (by exact c2)
            go_wp2
            go_returns
            exact ⟨rfl, HX.out.bw⟩
        · have t3 : ((nn : Int) != (mm : Int)) = true := by simp; omega
          obtain rfl : r = false := by
            cases r
            · rfl
            · exact absurd (HR.out.1 rfl).2.2.1 (by intro e; have a := HN1.out.len; have b := HN2.out.len; rw [e] at a; omega)
          go_wp2
          go_returns
          exact ⟨rfl, HX.out.bw⟩
      · have t2 : ¬ p.nm.toList = q.nm.toList := fun e => n1e ((nm_inj _ _).1 e)
        have t2b : (p.nm.toList == q.nm.toList) = false := by simpa using t2
        obtain rfl : r = false := by
          cases r
          · rfl
          · exact absurd (HR.out.1 rfl).2.1 (by exact n1e)
        go_wp2
        go_returns
        exact ⟨rfl, HX.out.bw⟩
    · have t1 : (p.op != q.op) = true := by simp [o1]
      obtain rfl : r = false := by
        cases r
        · rfl
        · exact absurd (HR.out.1 rfl).1 (by exact o1)
      go_wp2
      go_returns
      exact ⟨rfl, HX.out.bw⟩
end Go.Proofs.YtimjendkpjojoaaDoor
