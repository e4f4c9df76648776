/-
  Decimal texts of numbers that are not negative: what the model's l13Dec returns. Conditions: the number is at most 1000000.
-/
import Derived.Test.YtaccbmgbkalknabDoorNum
import Derived.Laws.BytesString
namespace Go.Proofs.YtaccbmgbkalknabDoor
open Go.RowKit

def decF : Nat → Nat → List UInt8
  | 0, _ => []
  | f + 1, n => if n < 10 then [48 + UInt8.ofNat n] else decF f (n / 10) ++ [48 + UInt8.ofNat (n % 10)]
theorem conv_one (W : World) (x : Int) : (convert 22 9 (.slice (some ⟨W.heap.size, 0, none⟩) 1 1)).run Tryd.prog (W.alloc (.cells #[.int .u8 x] 5)) = .ok (.string ⟨#[UInt8.ofNat x.toNat]⟩) (W.alloc (.cells #[.int .u8 x] 5)) := by
  rw [run_convert_bytes_string _ _ _ 5 _ _ _ Tryd.underlying22 Tryd.underlying5 Tryd.underlying9]
  have hc : (W.alloc (.cells #[.int .u8 x] 5)).cell? ⟨W.heap.size, 0, none⟩ = some (.int .u8 x) := blk_cell (blk_new W 5 #[.int .u8 x]) 0
  rw [run_bytesToString _ _ 1 1 [x] (by simp [loadCells, loadCellsFrom, go_sem, Addr.add, hc])]
  rfl
theorem bytes_app (a b : ByteArray) : (a ++ b).data.toList = a.data.toList ++ b.data.toList := by simp [ByteArray.data_append]
theorem str_eq {s : ByteArray} {l : List UInt8} (h : s.data.toList = l) : s = ⟨l.toArray⟩ := by
  apply ByteArray.ext
  rw [← h]
theorem decF_step {g m : Nat} (h : 9 < m) : decF (g + 1 + 1) m = decF (g + 1) (m / 10) ++ [48 + UInt8.ofNat (m % 10)] := by
  rw [decF, if_neg (by omega)]
theorem decF_last {f m : Nat} (h : ¬ 9 < m) : decF (f + 1) m = [48 + UInt8.ofNat m] := by
  rw [decF, if_pos (by omega)]
def DecRel (w : World) (n : Nat) (x o : Value) (wr : World) : Prop :=
  ∃ (m f : Nat) (s : ByteArray), x = .int .i64 (m : Int) ∧ o = .string s ∧ m ≤ n ∧ m < 10 ^ (f + 1) ∧ decF (f + 1) m ++ s.data.toList = decF 8 n ∧ f + 1 + s.size ≤ 8 ∧ Below w.heap.size w wr
set_option maxRecDepth 100000 in
set_option maxHeartbeats 1000000 in
theorem l13Dec_big (n : Nat) (w : World) (hn : n ≤ 10000000) :
    Calls Tryd.prog 22 #[.int .i64 (n : Int)] w fun e w' => e = .returned (.string ⟨(decF 8 n).toArray⟩) ∧ Below w.heap.size w w' := by
  have hcv := conv_one
  have R0 : DecRel w n (.int .i64 (n : Int)) (.string ⟨#[]⟩) w := ⟨n, 7, ⟨#[]⟩, rfl, rfl, Nat.le_refl _, by omega, by simp, by decide, Below.refl _ _⟩
  have HR := Lib.hid R0
  clear R0
  go_enter Tryd.func22, Tryd.ntmps22
  go_wp2
  go_loopw [0, 3] (fun x o wr => DecRel w n x o wr) (fun x _ _ => (intOf x).toNat)
  case atStart => exact HR.out
  case round =>
    obtain ⟨m, f, s, rfl, rfl, hm, hf, hd, hfs, hbl⟩ := hrel
    have hs : s.size ≤ 8 := by omega
    clear HR
    have HB := Lib.hid hbl
    have HD := Lib.hid (And.intro hf (And.intro hd hfs))
    clear hbl hf hd hfs
    by_cases h9 : 9 < m
    · go_wp2
      go_roundw
      case rel =>
        obtain ⟨hf, hd, hfs⟩ := HD.out
        obtain ⟨g, rfl⟩ : ∃ g, f = g + 1 := by
          rcases f with _ | g
          · simp at hf; omega
          · exact ⟨g, rfl⟩
        refine ⟨m / 10, g, _, by go_num, rfl, by omega, by rw [Nat.pow_succ] at hf; omega, ?_, by rw [ByteArray.size_append]; show g + 1 + (1 + s.size) ≤ 8; omega, below_alloc HB.out _⟩
        rw [← hd, bytes_app, decF_step h9, List.append_assoc]
      case measure => simp [intOf]; omega
    · go_wp2
      go_ret
      obtain ⟨hf, hd, hfs⟩ := HD.out
      refine ⟨?_, below_alloc HB.out _⟩
      exact congrArg (fun x => Ending.returned (.string x)) (str_eq (s := ⟨#[48 + UInt8.ofNat m]⟩ ++ s) (l := decF 8 n) (by rw [← hd, bytes_app, decF_last h9]))
theorem l13Dec_any (n : Nat) (w : World) (hn : n ≤ 1000000) :
    Calls Tryd.prog 22 #[.int .i64 (n : Int)] w fun e w' => e = .returned (.string ⟨(decF 8 n).toArray⟩) ∧ Below w.heap.size w w' := l13Dec_big n w (by omega)
theorem decF_len (f n : Nat) : (decF f n).length ≤ f := by
  induction f generalizing n with
  | zero => simp [decF]
  | succ f ih =>
    rw [decF]
    split
    · simp
    · have := ih (n / 10)
      simp; omega
def DecPost (w : World) (n : Nat) (e : Ending) (w' : World) : Prop := ∃ s : ByteArray, e = .returned (.string s) ∧ s.size ≤ 8 ∧ Hid (s.data.toList = decF 8 n) ∧ Below w.heap.size w w'
theorem l13Dec_str (n : Nat) (w : World) (hn : n ≤ 1000000) : Calls Tryd.prog 22 #[.int .i64 (n : Int)] w (DecPost w n) :=
  (l13Dec_any n w hn).mono fun _ _ ⟨he, hb⟩ => ⟨_, he, by show (decF 8 n).toArray.size ≤ 8; simpa using decF_len 8 n, Lib.hid rfl, hb⟩
end Go.Proofs.YtaccbmgbkalknabDoor
