/-
  The program's ParsePackets: what it returns. Conditions: the text has fewer than 4294967281 bytes; internal/bytealg.MaxLen holds some number.
-/
import Derived.Test.YtlnbhbjibkgjgaaDoorPieces
import Derived.Test.YtlnbhbjibkgjgaaDoorShelf
import Derived.Test.YtlnbhbjibkgjgaaDoorAppPkt
namespace Go.Proofs.YtlnbhbjibkgjgaaDoor
open Go.RowKit

theorem tail_elem : ∀ (r : List (List UInt8)) (x : List UInt8), x ∈ r → x.length ≤ (Lib.joinTail [32] r).length := by
  intro r
  induction r with
  | nil => intro x hx; cases hx
  | cons z t ih =>
    intro x hx
    have e : Lib.joinTail [32] (z :: t) = ([32] ++ z) ++ Lib.joinTail [32] t := rfl
    rw [e, List.length_append, List.length_append]
    rcases List.mem_cons.1 hx with rfl | hx
    · omega
    · have := ih x hx
      omega
theorem join_elem (xs : List (List UInt8)) (x : List UInt8) (hx : x ∈ xs) : x.length ≤ (Lib.join xs [32]).length := by
  rcases xs with _ | ⟨y, r⟩
  · cases hx
  · rw [Lib.join_cons, List.length_append]
    rcases List.mem_cons.1 hx with rfl | hx
    · omega
    · have := tail_elem r x hx
      omega
theorem own_lower {w : World} {base base' : Nat} {e : TypeId} {v : Value} {n size : Nat} {xs : List Value} (h : w.ownsRow base e size v n xs) (hl : base' ≤ base) : w.ownsRow base' e size v n xs :=
  ⟨h.1, by
    rcases h.2 with h1 | ⟨g, cap, cur, rfl, hb, hr⟩
    · exact .inl h1
    · exact .inr ⟨g, cap, cur, rfl, Nat.le_trans hl hb, hr⟩⟩
theorem pieces_size {s t : ByteArray} (h : t ∈ pieces s) : t.size ≤ s.size := by
  obtain ⟨l, hl, rfl⟩ := List.mem_map.1 h
  have := join_elem _ l hl
  rw [join_pcs _ _ (Nat.le_refl _), len_bytes] at this
  show l.toArray.size ≤ _
  simpa using this
def ML (w : World) : Prop := ∃ m, w.cell? ⟨0, 0, none⟩ = some (.int .i64 m) ∧ 0 < w.heap.size
theorem ml_below {w w' : World} (h : ML w) (hb : Below w.heap.size w w') : ML w' := by
  obtain ⟨m, hm, hl⟩ := h
  exact ⟨m, ((bcell hb).1 _ 0 hl).trans hm, Nat.lt_of_lt_of_le hl hb.size⟩
def ParsPost (s : ByteArray) (w : World) (e : Ending) (w' : World) : Prop :=
  ((okPs s = true ∧ ∃ A n c, e = .returned (.tuple #[.slice A n c, .bool true]) ∧ w'.ownsRow w.heap.size 24 4 (.slice A n c) n (pcells (pktsOf s))) ∨
    (okPs s = false ∧ ∃ A c, e = .returned (.tuple #[.slice A 0 c, .bool false]) ∧ w'.ownsRow w.heap.size 24 4 (.slice A 0 c) 0 (pcells []))) ∧ Below w.heap.size w w'
def ParRel (w : World) (s : ByteArray) (N g : Nat) (v i : Value) (wr : World) : Prop :=
  ∃ k : Nat, k ≤ N ∧ i = .int .i64 (k : Int) ∧ ((pieces s).take k).all okT = true ∧ wr.ownsRow (w.heap.size + 1) 24 4 v k (pcells (((pieces s).take k).map pktOf)) ∧ Below w.heap.size w wr ∧
    Blk wr g 9 ((pieces s).map Value.string).toArray
theorem take_snoc' {α : Type} (l : List α) (k : Nat) (x : α) (h : l[k]? = some x) : l.take (k + 1) = l.take k ++ [x] := by
  rw [List.take_add_one, h]; rfl
set_option maxRecDepth 100000 in
set_option maxHeartbeats 4000000 in
theorem parsI_any (s : ByteArray) (w : World) (hs : s.size < 4294967281) (hm : ML w) :
    Calls Tryd.prog 21 #[.string s] w (ParsPost s w) := by
  by_cases h0 : s.size = 0
  · have hE := okPs_empty h0
    have hnil : s = ⟨#[]⟩ := str_eq (List.eq_nil_of_length_eq_zero (by rw [len_bytes]; exact h0))
    subst hnil
    have HE := Lib.hid hE
    clear hE h0 hs
    go_enter Tryd.func21, Tryd.ntmps21
    go_wp2
    go_ret2
    exact ⟨.inl ⟨HE.out.1, none, 0, 0, rfl, by rw [HE.out.2]; exact World.ownsRow_nil _ _ _ _⟩, Below.refl _ _⟩
  · have hne : s.toList.isEmpty = false := not_empty (by omega)
    have H0 := Lib.hid h0
    have hpl := pieces_len s
    obtain ⟨C, hC⟩ : ∃ C, C = s.data.toList.count 32 := ⟨_, rfl⟩
    have hcb : (Lib.countByte s.data.toList 32 : Int) = (C : Int) := by rw [hC]; rfl
    have hcB : Lib.countB s ⟨#[32]⟩ = C := by rw [hC]; exact Lib.count_one 32 _
    have hCs : C ≤ s.size := by rw [hC, ← len_bytes]; exact List.count_le_length
    rw [← hC] at hpl
    have HPL := Lib.hid hpl
    have HCB := Lib.hid hcb
    have HCC := Lib.hid hcB
    have HM := Lib.hid hm
    clear hC hpl hcb hcB h0 hm
    by_cases h64 : 64 ≤ C
    · have h64' : (64 : Int) ≤ (C : Int) := by omega
      go_enter Tryd.func21, Tryd.ntmps21
      go_wp2_with fail
      refine (Tryd.strings_Count_one s 32 _).mono ?_
      rintro e w1 ⟨rfl, rfl⟩
      rw [HCB.out]
      go_wp2
      go_ret2
      exact ⟨.inr ⟨okPs_long H0.out (by rw [HPL.out]; omega), none, 0, rfl, World.ownsRow_nil _ _ _ _⟩, Below.refl _ _⟩
    · have h64' : decide ((64 : Int) ≤ (C : Int)) = false := by rw [decide_eq_false_iff_not]; omega
      have hC64 : C < 64 := by omega
      clear h64
      obtain ⟨mm, hmm, hml⟩ := HM.out
      have HMM := Lib.hid hmm
      clear hmm
      go_enter Tryd.func21, Tryd.ntmps21
      go_wp2_with fail
      refine (Tryd.strings_Count_one s 32 _).mono ?_
      rintro e w1 ⟨rfl, rfl⟩
      rw [HCB.out]
      go_wp2_with fail
      have hSp := Tryd.strings_Split s ⟨#[32]⟩ mm w1 hs HMM.out (by decide)
      rw [split_pieces, HCC.out] at hSp
      refine hSp.mono ?_
      clear hSp
      rintro e w2 ⟨rfl, hw2⟩
      have hB := blk_new w1 9 ((pieces s).map Value.string).toArray
      have hb1 := below_alloc (Below.refl w1.heap.size w1) (.cells ((pieces s).map Value.string).toArray 9)
      rw [← hw2] at hB hb1
      have HB := Lib.hid hB
      have B1 := Lib.hid hb1
      clear hw2 hB hb1
      go_wp2
      go_loopw [4, 17] (fun v i wr => ParRel w1 s (C + 1) w1.heap.size v i wr) (fun _ i _ => C + 1 - (intOf i).toNat)
      case atStart => exact ⟨0, Nat.zero_le _, rfl, by simp, World.ownsRow_nil _ _ _ _, B1.out, HB.out⟩
      case round =>
        obtain ⟨k, hk, rfl, hall, ho, hbl, hblk⟩ := hrel
        have HA := Lib.hid hall
        have HO := Lib.hid ho
        have HL := Lib.hid hbl
        have HK := Lib.hid hblk
        have hsz := hbl.size
        clear hall ho hbl hblk
        by_cases hlt : k < C + 1
        · obtain ⟨t, ht⟩ : ∃ t, (pieces s)[k]? = some t := ⟨_, List.getElem?_eq_getElem (by rw [HPL.out]; exact hlt)⟩
          have hts := pieces_size (List.mem_of_getElem? ht)
          have hc : wr.cell? ⟨w1.heap.size, k, none⟩ = some (.string t) := by
            rw [blk_cell HK.out, ← Array.getElem?_toList]
            show ((pieces s).map Value.string)[k]? = _
            rw [List.getElem?_map, ht]; rfl
          have HT := Lib.hid ht
          clear ht
          rcases hok : okT t with _ | _
          · have HF := Lib.hid (okPs_bad H0.out HT.out hok)
            go_wp2_with fail
            refine (parseI_no _ (by omega) hok).mono ?_
            rintro e w3 ⟨rfl, hb3⟩
            have HL3 := Lib.hid (HL.out.trans (hb3.mono HL.out.size))
            clear hb3 hok hc
            go_wp2
            go_ret2
            exact ⟨.inr ⟨HF.out, none, 0, rfl, World.ownsRow_nil _ _ _ _⟩, below_alloc HL3.out _⟩
          · obtain ⟨p, hp⟩ : ∃ p, pktOf t = p := ⟨_, rfl⟩
            have HP := Lib.hid hp
            have HOK := Lib.hid hok
            clear hp hok
            go_wp2_with fail
            refine (parseI_yes p _ (by omega) HOK.out HP.out).mono ?_
            rintro e w3 ⟨rfl, hb3⟩
            have HL3 := Lib.hid (HL.out.trans (hb3.mono HL.out.size))
            have HO3 := Lib.hid ((own_below HO.out hb3).alloc (.cells #[.int .i64 p.peer, .int .i64 p.lane, .int .i64 p.size, .int .i64 p.id] 24))
            have HK3 := Lib.hid (blk_below HK.out hb3 (blk_lt HK.out))
            have hsz3 := HL3.out.size
            have hlt3 := blk_lt HK3.out
            clear hb3 hc
            go_wp2_with (at_builtin; refine wp_app_pkt _ rfl (.tmp 28) (.tmp 30) rfl (w1.heap.size + 1) u4 k _ p rfl HO3.out _ (by simp) rfl (by omega) (by simp; omega) ?_; intro v' w4 ho4 hg4)
            have hne4 : u4.ownBlock ≠ some w1.heap.size := fun e => by
              have := (HO3.out.lt _ e).1
              omega
            have HL4 := Lib.hid (((HL3.out.alloc HL3.out.size _).alloc (by have := HL3.out.size; simp; omega) _).grown hg4 (by simp; omega) fun j hj => by have := (HO3.out.lt j hj).1; omega)
            have HO4 := Lib.hid ho4
            have HK4 : Hid (Blk w4 w1.heap.size 9 ((pieces s).map Value.string).toArray) := Lib.hid ((hg4.block w1.heap.size (by simp; omega) (fun e => hne4 (by first | exact e | exact e.symm))).trans (blk_alloc (blk_alloc HK3.out _) _))
            clear ho4 hg4
            go_wp2
            go_roundw
            case rel => exact ⟨k + 1, by omega, by go_num, by rw [take_snoc' _ k t HT.out, List.all_append, HA.out]; simp [HOK.out], by rw [take_snoc' _ k t HT.out, List.map_append, List.map_cons, List.map_nil, HP.out]; exact HO4.out, HL4.out, HK4.out⟩
            case measure => simp [intOf]; omega
        · obtain rfl : k = C + 1 := by omega
          have ht : (pieces s).take (C + 1) = pieces s := List.take_of_length_le (by rw [HPL.out]; exact Nat.le_refl _)
          have HY := Lib.hid (okPs_yes H0.out (by rw [HPL.out]; omega) (by rw [← ht]; exact HA.out))
          have ho := HO.out
          rw [ht, ← HY.out.2] at ho
          obtain ⟨A, c, rfl, -, -, -⟩ := own_form ho
          have HO' := Lib.hid (own_lower ho (Nat.le_succ _))
          clear ht ho
          go_wp2
          go_ret2
          exact ⟨.inl ⟨HY.out.1, A, C + 1, c, rfl, HO'.out⟩, HL.out⟩
end Go.Proofs.YtlnbhbjibkgjgaaDoor
