/- M4 in one. -/
import Derived.Test.YtimjendkpjojoaaGreatDoorKj
import Derived.Test.YtimjendkpjojoaaGreatDoorKag
import Derived.Laws.Rows
namespace Go.Proofs.YtimjendkpjojoaaGreatDoor
set_option linter.unusedVariables false
set_option linter.unusedSimpArgs false
open Go.ChangeShapes Go.WideShapes Go.ChangeAt Go.RowKit

/-- The table of words, as it lies. -/
def wordsA : Array Value := #[.string ⟨#[103, 114, 111, 117, 112]⟩, .string ⟨#[115, 104, 105, 102, 116]⟩, .string ⟨#[115, 117, 98, 115, 101, 116]⟩, .string ⟨#[97, 108, 116, 101, 114]⟩, .string ⟨#[99, 111, 109, 98, 105, 110, 101]⟩, .string ⟨#[97, 110, 99, 104, 111, 114]⟩, .string ⟨#[100, 111, 119, 110]⟩, .string ⟨#[117, 112]⟩, .string ⟨#[109, 101, 101, 116]⟩, .string ⟨#[117, 110, 105, 111, 110]⟩, .string ⟨#[99, 117, 116]⟩, .string ⟨#[108, 101, 115, 115]⟩]
def Tabw (w : World) : Prop := ∃ t fr, w.heap[2]? = some (.cells wordsA t fr)
theorem Tabw.keep {w w' : World} (h : Tabw w) (q : Below w.heap.size w w') : Tabw w' := by
  obtain ⟨t, fr, e⟩ := h
  exact ⟨t, fr, (q.block 2 (Array.getElem?_eq_some_iff.1 e).1).trans e⟩
theorem info108 : (Tryz.prog.info? 108).map (·.size) = some wordsA.size := by kernel_rfl
def opB (k : Nat) : ByteArray := ([⟨#[103, 114, 111, 117, 112]⟩, ⟨#[115, 104, 105, 102, 116]⟩, ⟨#[115, 117, 98, 115, 101, 116]⟩, ⟨#[97, 108, 116, 101, 114]⟩, ⟨#[99, 111, 109, 98, 105, 110, 101]⟩, ⟨#[97, 110, 99, 104, 111, 114]⟩, ⟨#[100, 111, 119, 110]⟩, ⟨#[117, 112]⟩, ⟨#[109, 101, 101, 116]⟩, ⟨#[117, 110, 105, 111, 110]⟩, ⟨#[99, 117, 116]⟩, ⟨#[108, 101, 115, 115]⟩] : List ByteArray).getD k ⟨#[]⟩
theorem opB_0 (w : World) : (Instr.index 108 (.agg wordsA) (.int .i64 0)).run Tryz.prog w = .ok (.string (opB 0)) w := by kernel_rfl
theorem opB_1 (w : World) : (Instr.index 108 (.agg wordsA) (.int .i64 1)).run Tryz.prog w = .ok (.string (opB 1)) w := by kernel_rfl
theorem opB_2 (w : World) : (Instr.index 108 (.agg wordsA) (.int .i64 2)).run Tryz.prog w = .ok (.string (opB 2)) w := by kernel_rfl
theorem opB_3 (w : World) : (Instr.index 108 (.agg wordsA) (.int .i64 3)).run Tryz.prog w = .ok (.string (opB 3)) w := by kernel_rfl
theorem opB_4 (w : World) : (Instr.index 108 (.agg wordsA) (.int .i64 4)).run Tryz.prog w = .ok (.string (opB 4)) w := by kernel_rfl
theorem opB_5 (w : World) : (Instr.index 108 (.agg wordsA) (.int .i64 5)).run Tryz.prog w = .ok (.string (opB 5)) w := by kernel_rfl
theorem opB_6 (w : World) : (Instr.index 108 (.agg wordsA) (.int .i64 6)).run Tryz.prog w = .ok (.string (opB 6)) w := by kernel_rfl
theorem opB_7 (w : World) : (Instr.index 108 (.agg wordsA) (.int .i64 7)).run Tryz.prog w = .ok (.string (opB 7)) w := by kernel_rfl
theorem opB_8 (w : World) : (Instr.index 108 (.agg wordsA) (.int .i64 8)).run Tryz.prog w = .ok (.string (opB 8)) w := by kernel_rfl
theorem opB_9 (w : World) : (Instr.index 108 (.agg wordsA) (.int .i64 9)).run Tryz.prog w = .ok (.string (opB 9)) w := by kernel_rfl
theorem opB_10 (w : World) : (Instr.index 108 (.agg wordsA) (.int .i64 10)).run Tryz.prog w = .ok (.string (opB 10)) w := by kernel_rfl
theorem opB_11 (w : World) : (Instr.index 108 (.agg wordsA) (.int .i64 11)).run Tryz.prog w = .ok (.string (opB 11)) w := by kernel_rfl
theorem opB_at (k : Nat) (h : k < 12) (w : World) : (Instr.index 108 (.agg wordsA) (.int .i64 (k : Int))).run Tryz.prog w = .ok (.string (opB k)) w := by
  have : k = 0 ∨ k = 1 ∨ k = 2 ∨ k = 3 ∨ k = 4 ∨ k = 5 ∨ k = 6 ∨ k = 7 ∨ k = 8 ∨ k = 9 ∨ k = 10 ∨ k = 11 := by omega
  rcases this with rfl | rfl | rfl | rfl | rfl | rfl | rfl | rfl | rfl | rfl | rfl | rfl
  · exact opB_0 w
  · exact opB_1 w
  · exact opB_2 w
  · exact opB_3 w
  · exact opB_4 w
  · exact opB_5 w
  · exact opB_6 w
  · exact opB_7 w
  · exact opB_8 w
  · exact opB_9 w
  · exact opB_10 w
  · exact opB_11 w
theorem opB_W (k : Nat) (h : k < 12) : (opB k).data.toList = Lx.opW[k]'(by exact h) := by
  have : k = 0 ∨ k = 1 ∨ k = 2 ∨ k = 3 ∨ k = 4 ∨ k = 5 ∨ k = 6 ∨ k = 7 ∨ k = 8 ∨ k = 9 ∨ k = 10 ∨ k = 11 := by omega
  rcases this with rfl | rfl | rfl | rfl | rfl | rfl | rfl | rfl | rfl | rfl | rfl | rfl <;> rfl
theorem opGo_step (k : Nat) (h : k < 12) (w : List UInt8) : Lx.opGo (Lx.opW.drop k) (k + 1) w = if Lx.opW[k]'(by exact h) = w then k + 1 else Lx.opGo (Lx.opW.drop (k + 1)) (k + 1 + 1) w := by
  rw [List.drop_eq_getElem_cons (by exact h)]; rfl
set_option maxRecDepth 20000 in
set_option maxHeartbeats 1000000 in
theorem op_any (s : ByteArray) (w : World) (hT : Tabw w) :
    Calls Tryz.prog 53 #[.string s] w fun e w' => e = .returned (.tuple #[.int .u8 (Lx.opN s.data.toList : Int), .bool (decide (Lx.opN s.data.toList ≠ 0))]) ∧ w = w' := by
  obtain ⟨t, fr, hg1⟩ := hT
  obtain ⟨R, hR⟩ : ∃ R, Lx.opN s.data.toList = R := ⟨_, rfl⟩
  rw [hR]
  have HR : Hid (Lx.opGo (Lx.opW.drop 0) (0 + 1) s.data.toList = R) := Lib.hid hR
  obtain ⟨A, hA⟩ : ∃ A, wordsA = A := ⟨_, rfl⟩
  have HI : Hid (∀ (k : Nat) (h : k < 12) (w : World), (Instr.index 108 (.agg A) (.int .i64 (k : Int))).run Tryz.prog w = .ok (.string (opB k)) w) := Lib.hid (by rw [← hA]; exact opB_at)
  have HS := info108
  rw [hA] at HS hg1
  clear hR hA
  go_enter Tryz.func53, Tryz.ntmps53
  go_wp2_with (refine wpList_load_row rfl 108 _ rfl 2 rfl t _ fr _ hg1 Tryz.underlying108 rfl HS ?_)
  clear hg1 HS
  go_loop [4, 5, 7] (fun s4 s5 ii => ∃ k : Nat, k ≤ 12 ∧ ii = .int .i64 k ∧ Hid (Lx.opGo (Lx.opW.drop k) (k + 1) s.data.toList = R)) (fun s4 s5 ii => 12 - (intOf ii).toNat)
  case atStart => exact ⟨0, by omega, rfl, HR⟩
  case round =>
    clear HR
    obtain ⟨k, hk, rfl, HR⟩ := hrel
    have k0 : (0 : Int) ≤ (k : Int) := by omega
    by_cases klt : k < 12
    · have k1 : (k : Int) < 12 := by omega
      have hi := HI.out k klt w
      obtain ⟨x, hx⟩ : ∃ x, opB k = x := ⟨_, rfl⟩
      have HX : Hid (x.data.toList = Lx.opW[k]'(by exact klt)) := Lib.hid (by rw [← hx]; exact opB_W k klt)
      have HST := Lib.hid (opGo_step k klt s.data.toList)
      rw [hx] at hi
      clear hx
      have HE : Hid ((x.toList == s.toList) = decide (Lx.opW[k]'(by exact klt) = s.data.toList)) := Lib.hid (by
        rw [ByteArray.toList_eq, ByteArray.toList_eq, HX.out]
        cases hz : decide (Lx.opW[k] = s.data.toList) with | true => simp at hz; simp [hz] | false => simp at hz; simp [hz])
      by_cases q : Lx.opW[k]'(by exact klt) = s.data.toList
      · have h1 : (x.toList == s.toList) = true := by rw [HE.out]; exact decide_eq_true q
        obtain rfl : R = k + 1 := by rw [← HR.out, HST.out, if_pos q]
        clear HE HST HX q HR
        go_wp2
        go_returns
        exact ⟨by show Ending.returned (.tuple #[.int .u8 (1 + (k : Int)), .bool true]) = Ending.returned (.tuple #[.int .u8 ((k + 1 : Nat) : Int), .bool (decide (k + 1 ≠ 0))]); rw [Int.add_comm]; simp, rfl⟩
      · have h1 : (x.toList == s.toList) = false := by rw [HE.out]; exact decide_eq_false q
        have HR2 : Hid (Lx.opGo (Lx.opW.drop (k + 1)) (k + 1 + 1) s.data.toList = R) := Lib.hid (by rw [← HR.out, HST.out, if_neg q])
        clear HE HST HX q HR
        go_wp2
        go_round
        case rel => exact ⟨k + 1, by omega, by go_num, HR2⟩
        case measure => simp [intOf]; omega
    · obtain rfl : k = 12 := by omega
      obtain rfl : R = 0 := HR.out.symm
      go_wp2
      go_returns
      exact ⟨rfl, rfl⟩
end Go.Proofs.YtimjendkpjojoaaGreatDoor
