/- What PrintCommands leans on. -/
import Derived.Test.YtimjendkpjojoaaGreatDoorB1
import Derived.Test.YtimjendkpjojoaaGreatDoorW3
import Derived.Test.YtimjendkpjojoaaGreatDoorS1
import Derived.Test.YtimjendkpjojoaaGreatDoorKao
namespace Go.Proofs.YtimjendkpjojoaaGreatDoor
set_option linter.unusedVariables false
set_option linter.unusedSimpArgs false
open Go.ChangeShapes Go.WideShapes Go.ChangeAt Go.RowKit

theorem cmd_cg (w : World) (ao : Option Addr) (n c : Nat) (l : List Lx.Tk) (hA : TkAt w ao n c l) (hB : Lx.TkB l) (hT : Tabn w) (hW : Tabw w) :
    Calls Tryz.prog 14 #[.slice ao n c] w fun e w' => ∃ g : Cg, e = .returned (.tuple #[.agg #[.string g.wb, .slice g.an g.nl g.nc, .slice g.am g.ml g.mc, .int .i64 g.lo, .int .i64 g.hi, .bool g.hl, .bool g.hh, .int .u8 g.z.p.op, .string g.z.p.nm, .slice g.z.an g.z.nn g.z.nc, .slice g.z.aa g.z.p.k g.z.ac], .int .i64 (Lx.cmE l).2.1, .int .i64 (Lx.cmE l).2.2]) ∧ Hid (Below w.heap.size w w') ∧ Hid (CG w' 41 (Lx.cmE l).1 g) :=
  (cmd_any w ao n c l hA hB hT hW).mono (by
    rintro e w' ⟨vn, vm, z, rfl, hb, hc⟩
    obtain ⟨⟨an, k1, rfl, s1⟩, ⟨am, k2, rfl, s2⟩, hx⟩ := hc.out
    exact ⟨⟨⟨(Lx.cmE l).1.word.toArray⟩, an, _, k1, am, _, k2, _, _, _, _, z⟩, rfl, hb, Lib.hid ⟨rfl, (s1.sub only_all).gen, s2.sub only_all, rfl, hx.sub only_all⟩⟩)
theorem csame_flat (w : World) (D D' : Nat) (cm cn : Lx.Cm) (g h : Cg) (hg : CG w D cm g) (hh : CG w D' cn h) (r : Bool) (hr : r = true ↔ cm = cn) :
    Calls Tryz.prog 15 #[.agg #[.string g.wb, .slice g.an g.nl g.nc, .slice g.am g.ml g.mc, .int .i64 g.lo, .int .i64 g.hi, .bool g.hl, .bool g.hh, .int .u8 g.z.p.op, .string g.z.p.nm, .slice g.z.an g.z.nn g.z.nc, .slice g.z.aa g.z.p.k g.z.ac], .agg #[.string h.wb, .slice h.an h.nl h.nc, .slice h.am h.ml h.mc, .int .i64 h.lo, .int .i64 h.hi, .bool h.hl, .bool h.hh, .int .u8 h.z.p.op, .string h.z.p.nm, .slice h.z.an h.z.nn h.z.nc, .slice h.z.aa h.z.p.k h.z.ac]] w fun e w' => e = .returned (.bool r) ∧ Below w.heap.size w w' := csame_any w D D' cm cn g h hg hh r hr
theorem lineC_len2 {cm : Lx.Cm} {sh : List UInt8} (h : RightC cm) (hs : Lx.shape cm.word = some sh) (hm : ∀ z ∈ cm.nums, -9223372036854775808 ≤ z ∧ z ≤ 9223372036854775807) (hr : (-9223372036854775808 ≤ cm.rg.low ∧ cm.rg.low ≤ 9223372036854775807) ∧ (-9223372036854775808 ≤ cm.rg.high ∧ cm.rg.high ≤ 9223372036854775807)) (hx : 101 ∈ sh → (Lx.lineX cm.ex).length ≤ 400000) : (Lx.lineC cm sh).length ≤ 1000000 := by
  have hn : ∀ x ∈ cm.names, x.length ≤ 30 := fun x q => by have := (h.nam x q).hi; rwa [len_toArray] at this
  have c := shape_word hs
  have i := Lx.shape_in hs
  have key : (Lx.shL cm sh 0 0).length ≤ 500000 := by
    by_cases q : 101 ∈ sh
    · have e : sh = [110, 61] ++ [101] := by
        have : ∀ s ∈ Lx.shapesL, 101 ∈ s → s = [110, 61] ++ [101] := by decide
        exact this sh i q
      have a := Lx.shL_len hn hm hr [110, 61] (fun z => absurd z (by decide)) 0 0 (B := 0)
      have b := Lx.shL_len hn hm hr [101] (fun _ => hx q) (0 + Lx.cN [110, 61]) (0 + Lx.cI [110, 61]) (B := 400000)
      rw [e, Lx.shL_app, List.length_append]
      simp only [List.length_cons, List.length_nil] at a b
      omega
    · have a := Lx.shL_len hn hm hr sh (fun z => absurd z q) 0 0 (B := 0)
      have b := (Lx.shape_let i).1
      have e : (0 + 101) * sh.length ≤ 101 * 4 := by omega
      omega
  unfold Lx.lineC
  rw [List.length_append]
  omega
/-- What is known of a right command's line. -/
structure LnC (cm : Lx.Cm) : Prop where
  rd : Lx.words readOf piOf (Lx.lineC cm ((Lx.shape cm.word).getD [])) 0 [] = (Lx.toldC cm ((Lx.shape cm.word).getD []), -1)
  all : Lx.cmE (Lx.toldC cm ((Lx.shape cm.word).getD [])) = (cm, -1, 0)
  tkb : Lx.TkB (Lx.toldC cm ((Lx.shape cm.word).getD []))
  len : (Lx.lineC cm ((Lx.shape cm.word).getD [])).length ≤ 1000000
theorem tkb_letW {cm : Lx.Cm} (hb : CB cm) (x : UInt8) (a b : Nat) (hx : x = 101 → Lx.TkB (Lx.wordsX cm.ex)) : Lx.TkB (Lx.letW cm x a b) := by
  unfold Lx.letW
  split
  · refine tkb_one (by decide) ?_ (by decide) tkb_nil
    rw [List.getD_eq_getElem?_getD]
    cases e : cm.names[a]? with
    | none => exact Nat.zero_le _
    | some y => exact hb.b2 y (List.mem_of_getElem? e)
  · split
    · refine tkb_one (by decide) (Nat.zero_le _) ?_ tkb_nil
      rw [List.getD_eq_getElem?_getD]
      cases e : cm.nums[b]? with
      | none => decide
      | some y => exact hb.b3 y (List.mem_of_getElem? e)
    · split
      · rename_i e; exact hx e
      · split
        · exact tkb_one (by decide) (by decide) (by decide) tkb_nil
        · unfold Lx.rgW
          refine tkb_one (by decide) (by decide) (by decide) (tkb_app ?_ (tkb_one (by decide) (by decide) (by decide) (tkb_app ?_ (tkb_one (by decide) (by decide) (by decide) tkb_nil))))
          · split
            · exact tkb_one (by decide) (Nat.zero_le _) hb.b4.1 tkb_nil
            · exact tkb_nil
          · split
            · exact tkb_one (by decide) (Nat.zero_le _) hb.b4.2 tkb_nil
            · exact tkb_nil
theorem tkb_shW {cm : Lx.Cm} (hb : CB cm) : ∀ (p : List UInt8) (a b : Nat), (101 ∈ p → Lx.TkB (Lx.wordsX cm.ex)) → Lx.TkB (Lx.shW cm p a b)
  | [], a, b, _ => by rw [Lx.shW]; exact tkb_nil
  | x :: r, a, b, hx => by
    rw [Lx.shW]
    exact tkb_app (tkb_letW hb x a b (fun e => hx (by rw [e]; exact List.mem_cons_self))) (tkb_shW hb r _ _ (fun e => hx (List.mem_cons_of_mem _ e)))
theorem lnc_of {cm : Lx.Cm} {w : World} {D : Nat} {g : Cg} (hg : CG w D cm g) (h : RightC cm) (hb : CB cm) : LnC cm := by
  have hf := ex_fine hg.ex 1
  obtain ⟨sh, hs⟩ := Option.isSome_iff_exists.1 h.ok
  have e : (Lx.shape cm.word).getD [] = sh := by rw [hs]; rfl
  have hx : 101 ∈ sh → RightL (tour cm.ex 1) := fun q => h.ex1 (by rw [e]; exact q)
  refine ⟨line_words one_name one_num hg h hb.b3 hb.b4, ?_, ?_, ?_⟩
  · rw [e]; exact cm_back h hf hs
  · rw [e]
    exact tkb_one (by decide) hb.b1 (by decide) (tkb_shW hb sh 0 0 (fun q => tkb_words 40 cm.ex 1 (right_ok (hx q) hf).1 hf))
  · rw [e]
    exact lineC_len2 h hs hb.b3 hb.b4 (fun q => (right_len hg.ex (hx q)).2)
theorem lnc_inj {cm cn : Lx.Cm} (h : LnC cm) (k : LnC cn) (e : Lx.lineC cm ((Lx.shape cm.word).getD []) = Lx.lineC cn ((Lx.shape cn.word).getD [])) : cm = cn := by
  have a := h.rd
  rw [e, k.rd] at a
  have b : Lx.toldC cn ((Lx.shape cn.word).getD []) = Lx.toldC cm ((Lx.shape cm.word).getD []) := congrArg Prod.fst a
  have c := h.all
  rw [← b, k.all] at c
  exact (congrArg Prod.fst c).symm
/-- Words, their tokens in memory. -/
theorem wread_any (s : ByteArray) (W : World) (hT : Tx W) (hs : s.size ≤ 1048576) (R : List Lx.Tk × Int) (hR : Lx.words readOf piOf s.data.toList 0 [] = R) : Calls Tryz.prog 9 #[.string s] W fun e w' => ∃ ao c, e = .returned (.tuple #[.slice ao R.1.length c, .int .i64 R.2]) ∧ Hid (Below W.heap.size W w') ∧ Hid (TkAt w' ao R.1.length c R.1) := by
  refine (words_any s W hT hs).mono ?_
  rintro e w' ⟨v', rfl, h1, h2⟩
  have h1 := h1.out
  rw [hR] at h1
  obtain ⟨ao, c, rfl, hk⟩ := own_tk h1
  exact ⟨ao, c, by rw [hR], h2, Lib.hid hk⟩
structure By4 (w0 w : World) (b1 b2 : Nat) (c1 c2 : Array Value) : Prop where
  bw : Below w0.heap.size w0 w
  x1 : w.heap[b1]? = some (.cells c1 42 (0, 0))
  x2 : w.heap[b2]? = some (.cells c2 42 (0, 0))
theorem By4.keep {w0 w w' : World} {b1 b2 : Nat} {c1 c2 : Array Value} (h : By4 w0 w b1 b2 c1 c2) (q : Below w.heap.size w w') : By4 w0 w' b1 b2 c1 c2 := ⟨h.bw.trans (q.mono h.bw.size), blk_below h.x1 q, blk_below h.x2 q⟩
end Go.Proofs.YtimjendkpjojoaaGreatDoor
