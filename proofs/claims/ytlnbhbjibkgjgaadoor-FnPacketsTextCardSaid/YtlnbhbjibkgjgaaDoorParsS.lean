/-
  The model's l13Cut and ParsePackets: what they return. Conditions: the text has at most 1048576 bytes.
-/
import Derived.Test.YtlnbhbjibkgjgaaDoorPars
import Derived.Test.YtlnbhbjibkgjgaaDoorFmts
import Derived.Deep.DeepCutAuto
namespace Go.Proofs.YtlnbhbjibkgjgaaDoor
open Go.RowKit

theorem ext_piece (s : ByteArray) (f k : Nat) : (s.extract f k).data.toList = (s.data.toList.drop f).take (k - f) := by
  rw [ext_data, List.drop_take]
/-- what is done when the place k is looked at, the last piece having begun at f -/
def Mid (s : ByteArray) (k f : Nat) (done : List ByteArray) : Prop :=
  f ≤ k ∧ k ≤ s.size ∧ pcs s.data.toList = done.map (·.data.toList) ++ pcs (s.data.toList.drop f) ∧ (∀ x ∈ (s.data.toList.drop f).take (k - f), x ≠ 32) ∧ done.length ≤ k
theorem mid_start (s : ByteArray) : Mid s 0 0 [] := ⟨Nat.le_refl _, Nat.zero_le _, rfl, fun x hx => by simp at hx, Nat.le_refl _⟩
theorem take_more {l : List UInt8} {f k : Nat} (hf : f ≤ k) (hk : k < l.length) : (l.drop f).take (k + 1 - f) = (l.drop f).take (k - f) ++ [l[k]] := by
  rw [show k + 1 - f = (k - f) + 1 from by omega, List.take_add_one, List.getElem?_drop, show f + (k - f) = k from by omega, List.getElem?_eq_getElem hk]
  rfl
theorem mid_next {s : ByteArray} {k f : Nat} {done : List ByteArray} (h : Mid s k f done) (hk : k < s.size) (hc : s[k] ≠ 32) : Mid s (k + 1) f done := by
  obtain ⟨h1, h2, h3, h4, h5⟩ := h
  have hl : k < s.data.toList.length := by rw [len_bytes]; exact hk
  refine ⟨by omega, by omega, h3, ?_, by omega⟩
  rw [take_more h1 hl]
  intro x hx
  rcases List.mem_append.1 hx with hx | hx
  · exact h4 x hx
  · have : x = s.data.toList[k] := by simpa using hx
    rw [this]
    exact hc
theorem mid_hit {s : ByteArray} {k f : Nat} {done : List ByteArray} (h : Mid s k f done) (hk : k < s.size) (hc : s[k] = 32) : Mid s (k + 1) (k + 1) (done ++ [s.extract f k]) := by
  obtain ⟨h1, h2, h3, h4, h5⟩ := h
  have hl : k < s.data.toList.length := by rw [len_bytes]; exact hk
  have e : s.data.toList.drop f = (s.data.toList.drop f).take (k - f) ++ 32 :: s.data.toList.drop (k + 1) := by
    have e1 := (List.take_append_drop (k - f) (s.data.toList.drop f)).symm
    rw [List.drop_drop, show f + (k - f) = k from by omega, List.drop_eq_getElem_cons hl] at e1
    have : s.data.toList[k] = 32 := hc
    rw [this] at e1
    exact e1
  refine ⟨Nat.le_refl _, by omega, ?_, fun x hx => by simp at hx, by simp; omega⟩
  rw [h3]
  conv => lhs; rw [e]
  rw [pcs_at _ _ h4, List.map_append, List.map_cons, List.map_nil, ext_piece, List.append_assoc]
  rfl
theorem mid_last {s : ByteArray} {f : Nat} {done : List ByteArray} (h : Mid s s.size f done) : done ++ [s.extract f s.size] = pieces s := by
  obtain ⟨h1, h2, h3, h4, h5⟩ := h
  have e : (s.data.toList.drop f).take (s.size - f) = s.data.toList.drop f := List.take_of_length_le (by rw [List.length_drop, len_bytes]; exact Nat.le_refl _)
  rw [e] at h4
  apply map_str
  rw [List.map_append, List.map_cons, List.map_nil, ext_piece, e]
  rw [pcs_no _ h4] at h3
  rw [← h3, pieces, List.map_map]
  conv => lhs; rw [← List.map_id (pcs s.data.toList)]
  rfl
def CutRel (w : World) (s : ByteArray) (v f i : Value) (wr : World) : Prop :=
  (∃ (k fr : Nat) (done : List ByteArray), i = .int .i64 (k : Int) ∧ f = .int .i64 (fr : Int) ∧ Mid s k fr done ∧ wr.ownsRow w.heap.size 9 1 v done.length (done.map Value.string) ∧ Below w.heap.size w wr) ∨
    (i = .int .i64 ((s.size + 1 : Nat) : Int) ∧ (∃ fr : Nat, f = .int .i64 (fr : Int)) ∧ wr.ownsRow w.heap.size 9 1 v (pieces s).length ((pieces s).map Value.string) ∧ Below w.heap.size w wr)
def CutLPost (s : ByteArray) (w : World) (e : Ending) (w' : World) : Prop :=
  ∃ A c, e = .returned (.slice A (pieces s).length c) ∧ w'.ownsRow w.heap.size 9 1 (.slice A (pieces s).length c) (pieces s).length ((pieces s).map Value.string) ∧ Below w.heap.size w w'
set_option maxRecDepth 100000 in
set_option maxHeartbeats 4000000 in
theorem l13Cut_any (s : ByteArray) (w : World) (hs : s.size ≤ 1048576) :
    Calls Tryd.prog 53 #[.string s, .int .u8 32] w (CutLPost s w) := by
  have R0 : CutRel w s (.slice (some ⟨w.heap.size, 0, none⟩) 0 0) (.int .i64 0) (.int .i64 0) (w.alloc (.cells #[] 9)) :=
    .inl ⟨0, 0, [], rfl, rfl, mid_start s, ⟨rfl, .inr ⟨w.heap.size, 0, #[], rfl, Nat.le_refl _, blk_new w _ _, Nat.le_refl _, by unfold maxLen; omega, rfl, rfl⟩⟩, below_alloc (Below.refl _ _) _⟩
  have HR := Lib.hid R0
  clear R0
  go_enter Tryd.func53, Tryd.ntmps53
  go_wp2
  go_loopw [5, 6, 7] (fun v f i wr => CutRel w s v f i wr) (fun _ _ i _ => s.size + 1 - (intOf i).toNat)
  case atStart => exact HR.out
  case round =>
    rcases hrel with ⟨k, fr, done, rfl, rfl, hmid, ho, hbl⟩ | ⟨rfl, ⟨fr, rfl⟩, ho, hbl⟩
    · have HM := Lib.hid hmid
      have HO := Lib.hid ho
      have HB := Lib.hid hbl
      have hsz := hbl.size
      obtain ⟨m1, m2, -, -, m5⟩ := hmid
      clear ho hbl
      by_cases hlt : k < s.size
      · have hne : ((k : Int) == (s.size : Int)) = false := by simp only [beq_eq_false_iff_ne]; omega
        by_cases hc : s[k] = 32
        · have hcb : (((s[k].toNat : Nat) : Int) == 32) = true := by simp [hc]
          have HC := Lib.hid hc
          clear hc
          go_wp2_with (at_builtin; refine wp_app_str _ rfl (.tmp 26) (.tmp 31) rfl w.heap.size u5 done.length _ (s.extract fr k) rfl HO.out _ (by simp) rfl (by omega) (by omega) ?_; intro v' w3 hown3 hg3)
          have L := own_below1 HO.out HB.out rfl hg3 (by omega)
          have HL := Lib.hid L
          have HW := Lib.hid hown3
          clear L hg3 hown3
          go_roundw
          case rel => exact .inl ⟨k + 1, k + 1, done ++ [s.extract fr k], by go_num, by go_num, mid_hit HM.out hlt HC.out, by rw [List.length_append, List.map_append]; exact HW.out, HL.out⟩
          case measure => simp [intOf]; omega
        · have hcb : (((s[k].toNat : Nat) : Int) == 32) = false := by
            simp only [beq_eq_false_iff_ne]
            intro he
            exact hc (UInt8.toNat_inj.1 (by show s[k].toNat = 32; omega))
          have HC := Lib.hid hc
          clear hc
          go_wp2
          go_roundw
          case rel => exact .inl ⟨k + 1, fr, done, by go_num, rfl, mid_next HM.out hlt HC.out, HO.out, HB.out⟩
          case measure => simp [intOf]; omega
      · obtain rfl : k = s.size := by omega
        have HX := Lib.hid (mid_last HM.out)
        go_wp2_with (at_builtin; refine wp_app_str _ rfl (.tmp 26) (.tmp 31) rfl w.heap.size u5 done.length _ (s.extract fr s.size) rfl HO.out _ (by simp) rfl (by omega) (by omega) ?_; intro v' w3 hown3 hg3)
        have L := own_below1 HO.out HB.out rfl hg3 (by omega)
        have HL := Lib.hid L
        have HW := Lib.hid hown3
        clear L hg3 hown3
        go_roundw
        case rel => exact .inr ⟨by go_num, ⟨s.size + 1, by go_num⟩, by rw [← HX.out, List.length_append, List.map_append]; exact HW.out, HL.out⟩
        case measure => simp [intOf] <;> omega
    · have HO := Lib.hid ho
      have HB := Lib.hid hbl
      obtain ⟨A, c, rfl, -, -, -⟩ := own_form ho
      clear ho hbl
      go_wp2
      go_ret
      exact ⟨A, c, rfl, HO.out, HB.out⟩
/-- the pieces, as the model's ParsePackets meets them -/
theorem own_piece {w : World} {base c n : Nat} {A : Option Addr} {ss : List ByteArray} (h : w.ownsRow base 9 1 (.slice A n c) n (ss.map Value.string)) {k : Nat} (hk : k < n) {t : ByteArray} (ht : ss[k]? = some t) :
    ∃ g, A = some ⟨g, 0, none⟩ ∧ base ≤ g ∧ g < w.heap.size ∧ n ≤ c ∧ w.cell? ⟨g, k, none⟩ = some (.string t) := by
  obtain ⟨g, cap, hv, hb, hlt⟩ := h.form (by omega)
  have hA : A = some ⟨g, 0, none⟩ := by injection hv
  subst hA
  obtain ⟨A', c', hv', hnc, _, _⟩ := own_form h
  have hc : c = c' := by injection hv'
  have hcell := h.cells (g := g) rfl
  have ha : ∀ j, (⟨g, 0, none⟩ : Addr).add j = ⟨g, j, none⟩ := fun j => by unfold Addr.add; split <;> simp_all
  exact ⟨g, rfl, hb, hlt, by omega, by rw [← ha k]; exact hcell k (.string t) (by rw [List.getElem?_map, ht]; rfl)⟩
theorem wp_app_pkt_at (w : World) {ops : Array Oper} {rest : List Oper} {o : Oper} {a : Act} {Q : Exit → Act → World → Prop} (hgd : o.guard = none) (s x : Operand)
    (ho : o.op = .call { callee := .builtin .append, args := #[s, x], argTypes := #[32, 32] })
    (base : Nat) (v : Value) (n : Nat) (ps : List Pkt) (p : Pkt) (hs : a.eval s = v) (hown : w.ownsRow base 24 4 v n (pcells ps))
    (bl : Nat) (hbl : bl = w.heap.size) (hx : a.eval x = .slice (some ⟨bl, 0, none⟩) 1 1) (hn : n ≤ 4000000000) (hb : base ≤ w.heap.size)
    (h : ∀ v' w', w'.ownsRow base 24 4 v' (n + 1) (pcells (ps ++ [p])) → (w.alloc (.cells #[.int .i64 p.peer, .int .i64 p.lane, .int .i64 p.size, .int .i64 p.id] 24)).grownBy w' v.ownBlock → (v'.ownBlock = v.ownBlock ∨ v'.ownBlock = some (w.heap.size + 1)) → wpList Tryd.prog ops Q rest (a.put o.dst v') w') :
    wpList Tryd.prog ops Q (o :: rest) a (w.alloc (.cells #[.int .i64 p.peer, .int .i64 p.lane, .int .i64 p.size, .int .i64 p.id] 24)) := by
  subst hbl
  obtain ⟨i0, hi, hz0, hz1, hz2⟩ := info_parts infoPkt
  refine wpList_append_own_at _ hgd s x 32 ho base 24 i0 _ 4 32 Tryd.underlying32 hi hz0 hz1 hz2 rfl (by decide) v n _ hs (hown.alloc _) ⟨w.heap.size, 0, none⟩ 1 1 [.int .i64 p.peer, .int .i64 p.lane, .int .i64 p.size, .int .i64 p.id] hx rfl ?_ ?_ ?_ ?_ ?_ ?_
  · intro j u hj
    have hB := blk_new w 24 #[.int .i64 p.peer, .int .i64 p.lane, .int .i64 p.size, .int .i64 p.id]
    have ha : (⟨w.heap.size, 0, none⟩ : Addr).add j = ⟨w.heap.size, j, none⟩ := by unfold Addr.add; split <;> simp_all
    rw [ha, blk_cell hB, ← hj, ← Array.getElem?_toList]
  · exact pcells_one [p]
  · unfold maxLen; omega
  · omega
  · simp; omega
  · intro v' w' hown' hg' _ hat
    exact h v' w' (by rw [pcells_snoc]; exact hown') hg' (by simpa using hat)
def ParSRel (w0 : World) (s : ByteArray) (g N c : Nat) (v i : Value) (wr : World) : Prop :=
  ∃ k : Nat, k ≤ N ∧ k ≤ 65 ∧ i = .int .i64 (k : Int) ∧ ((pieces s).take k).all okT = true ∧ wr.ownsRow w0.heap.size 24 4 v k (pcells (((pieces s).take k).map pktOf)) ∧ Below w0.heap.size w0 wr ∧
    wr.ownsRow (w0.heap.size + 1) 9 1 (.slice (some ⟨g, 0, none⟩) N c) N ((pieces s).map Value.string) ∧ v.ownBlock ≠ some g
set_option maxRecDepth 100000 in
set_option maxHeartbeats 4000000 in
theorem parsS_any (s : ByteArray) (w : World) (hs : s.size ≤ 1048576) :
    Calls Tryd.prog 25 #[.string s] w (ParsPost s w) := by
  have O0 : (w.alloc (.cells #[] 24)).ownsRow w.heap.size 24 4 (.slice (some ⟨w.heap.size, 0, none⟩) 0 0) 0 (pcells []) := own_empty (Below.refl _ _)
  have HO0 := Lib.hid O0
  clear O0
  by_cases h0 : s.size = 0
  · have hE := okPs_empty h0
    have hnil : s = ⟨#[]⟩ := str_eq (List.eq_nil_of_length_eq_zero (by rw [len_bytes]; exact h0))
    subst hnil
    have HE := Lib.hid hE
    clear hE h0 hs
    go_enter Tryd.func25, Tryd.ntmps25
    go_wp2
    go_ret2
    exact ⟨.inl ⟨HE.out.1, _, 0, 0, rfl, by rw [HE.out.2]; exact HO0.out⟩, below_alloc (Below.refl _ _) _⟩
  · have hne : s.toList.isEmpty = false := not_empty (by omega)
    have H0 := Lib.hid h0
    clear h0
    go_enter Tryd.func25, Tryd.ntmps25
    go_wp2_with fail
    refine (l13Cut_any s _ hs).mono ?_
    rintro e w1 ⟨A, c, rfl, ho, hb⟩
    obtain ⟨N, hN⟩ : ∃ N, N = (pieces s).length := ⟨_, rfl⟩
    rw [← hN] at ho ⊢
    have HN := Lib.hid hN
    have hN0 : 0 < N := by rw [hN, pieces_len]; omega
    have hN1 : N ≤ 1048577 := by
      rw [hN, pieces_len]
      have : s.data.toList.count 32 ≤ s.data.toList.length := List.count_le_length
      rw [len_bytes] at this
      omega
    obtain ⟨g, cap, hv, hgb, hgl⟩ := ho.form hN0
    obtain rfl : A = some ⟨g, 0, none⟩ := by injection hv
    have hgb' : w.heap.size + 1 ≤ g := by simpa using hgb
    have HP := Lib.hid (show w1.ownsRow (w.heap.size + 1) 9 1 (.slice (some ⟨g, 0, none⟩) N c) N ((pieces s).map Value.string) from own_lower ho (by simp))
    have HO1 := Lib.hid (own_below HO0.out hb)
    have B1 := Lib.hid (below_from (below_alloc (Below.refl w.heap.size w) (.cells #[] 24)) hb (by simp))
    clear hN ho hb HO0 hv hgb cap
    go_wp2
    go_loopw [4, 6] (fun v i wr => ParSRel w s g N c v i wr) (fun _ i _ => N + 1 - (intOf i).toNat)
    case atStart => exact ⟨0, Nat.zero_le _, by omega, rfl, by simp, HO1.out, B1.out, HP.out, (fun e => by have e2 : w.heap.size = g := by simpa [Value.ownBlock] using e
                                                                                                           omega)⟩
    case round =>
      obtain ⟨k, hk, hk65, rfl, hall, ho, hbl, hpa, hne4⟩ := hrel
      have HA := Lib.hid hall
      have HO := Lib.hid ho
      have HL := Lib.hid hbl
      have HK := Lib.hid hpa
      have HNE := Lib.hid hne4
      have hsz := hbl.size
      have hgl2 := (hpa.lt g rfl).2
      clear hall ho hbl hpa hne4
      by_cases hlt : k < N
      · by_cases h64 : k ≤ 64
        · obtain ⟨t, ht⟩ : ∃ t, (pieces s)[k]? = some t := ⟨_, List.getElem?_eq_getElem (by rw [← HN.out]; exact hlt)⟩
          have hts := pieces_size (List.mem_of_getElem? ht)
          have hc : wr.cell? ⟨g, k, none⟩ = some (.string t) := by
            obtain ⟨g', e, _, _, _, hc⟩ := own_piece HK.out hlt ht
            obtain rfl : g = g' := by injection e with e; injection e
            exact hc
          have HT := Lib.hid ht
          clear ht
          rcases hok : okT t with _ | _
          · have HF := Lib.hid (okPs_bad H0.out HT.out hok)
            go_wp2_with fail
            refine (parseS_no _ (by omega) hok).mono ?_
            rintro e w3 ⟨rfl, hb3⟩
            have HL3 := Lib.hid (below_seq HL.out hb3)
            have hsz3 := HL3.out.size
            clear hb3 hok hc
            go_wp2
            go_ret2
            refine ⟨.inr ⟨HF.out, _, 0, rfl, ?_⟩, ?_⟩
            · exact ⟨rfl, .inr ⟨_, 0, #[], rfl, (by first | omega | (simp; omega)), by first | exact blk_new _ _ _ | exact blk_new2 _ _ _ _, Nat.le_refl _, by unfold maxLen; omega, rfl, rfl⟩⟩
            · repeat refine below_alloc ?_ _
              exact HL3.out
          · obtain ⟨p, hp⟩ : ∃ p, pktOf t = p := ⟨_, rfl⟩
            have HP2 := Lib.hid hp
            have HOK := Lib.hid hok
            clear hp hok
            go_wp2_with fail
            refine (parseS_yes p _ (by omega) HOK.out HP2.out).mono ?_
            rintro e w3 ⟨rfl, hb3⟩
            have HL3 := Lib.hid (below_seq HL.out hb3)
            have HO3 := Lib.hid ((own_below HO.out hb3).alloc (.cells #[.int .i64 p.peer, .int .i64 p.lane, .int .i64 p.size, .int .i64 p.id] 24))
            have HK3 := Lib.hid (own_below HK.out hb3)
            have hsz3 := HL3.out.size
            have hgl3 := (HK3.out.lt g rfl).2
            clear hb3 hc
            go_upto_region 7 with (at_builtin; refine wp_app_pkt_at _ rfl (.tmp 36) (.tmp 38) rfl w.heap.size u4 k _ p rfl HO3.out _ (by simp) rfl (by omega) (by simp; omega) ?_; intro v' w4 ho4 hg4 hat4)
            have HL4 := Lib.hid (((HL3.out.alloc HL3.out.size _).alloc (by have := HL3.out.size; simp; omega) _).grown hg4 (by simp; omega) fun j hj => (HO3.out.lt j hj).1)
            have HO4 := Lib.hid ho4
            have HK4 := Lib.hid (((HK3.out.alloc _).alloc _).kept hg4 (.inr (fun e => HNE.out e.symm)))
            have HNE4 : Hid (v'.ownBlock ≠ some g) := Lib.hid (by
              rcases hat4 with h | h
              · rw [h]; exact HNE.out
              · rw [h]; intro e; injection e with e; simp at e; omega)
            clear ho4 hg4 hat4
            go_wp2
            go_roundw
            case rel => exact ⟨k + 1, by omega, by omega, by go_num, by rw [take_snoc' _ k t HT.out, List.all_append, HA.out]; simp [HOK.out], by rw [take_snoc' _ k t HT.out, List.map_append, List.map_cons, List.map_nil, HP2.out]; exact HO4.out, HL4.out, HK4.out, HNE4.out⟩
            case measure => simp [intOf]; omega
        · have hN64 : (64 : Int) < (N : Int) := by omega
          have HF := Lib.hid (okPs_long (s := s) H0.out (by rw [← HN.out]; omega))
          have h64' : decide ((k : Int) ≤ 64) = false := by rw [decide_eq_false_iff_not]; omega
          clear h64
          go_wp2
          go_ret2
          refine ⟨.inr ⟨HF.out, _, 0, rfl, own_lower (own_empty (Below.refl _ _)) hsz⟩, below_alloc HL.out _⟩
      · obtain rfl : k = N := by omega
        by_cases h64 : k ≤ 64
        · have h64' : decide ((64 : Int) < (k : Int)) = false := by rw [decide_eq_false_iff_not]; omega
          have ht : (pieces s).take k = pieces s := List.take_of_length_le (by rw [← HN.out]; exact Nat.le_refl _)
          have HY := Lib.hid (okPs_yes H0.out (by rw [← HN.out]; omega) (by rw [← ht]; exact HA.out))
          have ho := HO.out
          rw [ht, ← HY.out.2] at ho
          obtain ⟨A, c', rfl, -, -, -⟩ := own_form ho
          have HO' := Lib.hid ho
          clear ht ho h64
          go_wp2
          go_ret2
          exact ⟨.inl ⟨HY.out.1, A, k, c', rfl, HO'.out⟩, HL.out⟩
        · have h64' : (64 : Int) < (k : Int) := by omega
          have HF := Lib.hid (okPs_long (s := s) H0.out (by rw [← HN.out]; omega))
          clear h64
          go_wp2
          go_ret2
          refine ⟨.inr ⟨HF.out, _, 0, rfl, own_lower (own_empty (Below.refl _ _)) hsz⟩, below_alloc HL.out _⟩
end Go.Proofs.YtlnbhbjibkgjgaaDoor
