/-
  FormatPackets: what the program's function and the model's return. Conditions: strconv's table holds what the library lays.
-/
import Derived.Test.YtlnbhbjibkgjgaaDoorFmtS
import Derived.Lib.Join
namespace Go.Proofs.YtlnbhbjibkgjgaaDoor
open Go.RowKit

def textP (p : Pkt) : List UInt8 := textL p.peer.toNat p.lane.toNat p.size.toNat p.id.toNat
def strP (p : Pkt) : ByteArray := ⟨(textP p).toArray⟩
theorem textL_len (a b c d : Nat) : (textL a b c d).length ≤ 35 := by
  have h1 := decF_len 8 a
  have h2 := decF_len 8 b
  have h3 := decF_len 8 c
  have h4 := decF_len 8 d
  simp only [textL, List.length_append, List.length_cons]
  omega
theorem textP_len (p : Pkt) : (textP p).length ≤ 35 := textL_len _ _ _ _
theorem strP_data (p : Pkt) : (strP p).data.toList = textP p := rfl
theorem strP_size (p : Pkt) : (strP p).size ≤ 35 := by
  show (textP p).toArray.size ≤ 35
  simpa using textP_len p
/-- the texts with a space between -/
def joinT (ps : List Pkt) : List UInt8 := Lib.join (ps.map textP) [32]
theorem joinT_nil : joinT [] = [] := rfl
theorem joinT_one (p : Pkt) : joinT [p] = textP p := Lib.join_one _ _
theorem joinT_snoc (q : Pkt) (r : List Pkt) (p : Pkt) : joinT ((q :: r) ++ [p]) = joinT (q :: r) ++ 32 :: textP p := by
  simp only [joinT, List.cons_append, List.map_cons, List.map_append, List.map_nil, Lib.join_cons, Lib.joinTail, List.map_append, List.flatten_append]
  simp
theorem joinT_len (ps : List Pkt) : (joinT ps).length ≤ 36 * ps.length := by
  rcases ps with _ | ⟨q, r⟩
  · simp [joinT_nil]
  · simp only [joinT, List.map_cons, Lib.join_cons, List.length_append, List.length_cons]
    have h1 := textP_len q
    have h2 : (Lib.joinTail [32] (r.map textP)).length ≤ 36 * r.length := by
      induction r with
      | nil => simp [Lib.joinTail]
      | cons x r ih =>
        have h3 := textP_len x
        simp only [Lib.joinTail, List.map_cons, List.flatten_cons, List.length_append, List.length_cons, List.length_nil] at ih ⊢
        omega
    omega
theorem joinT_take {ps : List Pkt} {k : Nat} {p : Pkt} (hk : 0 < k) (hp : ps[k]? = some p) : joinT (ps.take (k + 1)) = joinT (ps.take k) ++ 32 :: textP p := by
  rw [take_snoc ps k p hp]
  rcases h : ps.take k with _ | ⟨q, r⟩
  · exfalso
    have hl : k < ps.length := by
      rcases Nat.lt_or_ge k ps.length with h' | h'
      · exact h'
      · rw [List.getElem?_eq_none h'] at hp; cases hp
    have e := congrArg List.length h
    simp only [List.length_take, List.length_nil] at e
    omega
  · exact joinT_snoc q r p
theorem joinT_first {ps : List Pkt} {p : Pkt} (hp : ps[0]? = some p) : joinT (ps.take 1) = textP p := by
  rw [take_snoc ps 0 p hp]
  exact joinT_one p
def strJ (ps : List Pkt) : ByteArray := ⟨(joinT ps).toArray⟩
theorem strJ_size (ps : List Pkt) : (strJ ps).size ≤ 36 * ps.length := by
  show (joinT ps).toArray.size ≤ _
  simpa using joinT_len ps
theorem nat_of {p : Pkt} (h : vldB p = true) : p = ⟨(p.peer.toNat : Int), (p.lane.toNat : Int), (p.size.toNat : Int), (p.id.toNat : Int)⟩ := by
  obtain ⟨x1, x2, x3, x4⟩ := p
  simp only [vldB, decide_eq_true_eq] at h
  show Pkt.mk x1 x2 x3 x4 = ⟨(x1.toNat : Int), (x2.toNat : Int), (x3.toNat : Int), (x4.toNat : Int)⟩
  rw [Int.toNat_of_nonneg (by omega), Int.toNat_of_nonneg (by omega), Int.toNat_of_nonneg (by omega), Int.toNat_of_nonneg (by omega)]
theorem fmtI_pkt (p : Pkt) (w : World) (hv : vldB p = true) (ht : Tab w) :
    Calls Tryd.prog 11 #[.agg #[.int .i64 p.peer, .int .i64 p.lane, .int .i64 p.size, .int .i64 p.id]] w fun e w' => e = .returned (.string (strP p)) ∧ Below w.heap.size w w' := by
  obtain ⟨a, b, c, d, rfl⟩ := nat4 hv
  exact fmtI_yes a b c d w hv ht
theorem l1Text_pkt (p : Pkt) (w : World) (hv : vldB p = true) :
    Calls Tryd.prog 39 #[.agg #[.int .i64 p.peer, .int .i64 p.lane, .int .i64 p.size, .int .i64 p.id]] w fun e w' => e = .returned (.string (strP p)) ∧ Below w.heap.size w w' := by
  obtain ⟨a, b, c, d, rfl⟩ := nat4 hv
  have h := vld_nat hv
  exact l1Text_any a b c d w (by omega) (by omega) (by omega) (by omega)
/-! a slice of strings of the call's own -/
def strV (p : Pkt) : Value := .string (strP p)
theorem infoStr : (Tryd.prog.info? 9).map (fun i => (i.zero, i.size, i.bytes)) = some (some (.string .empty), 1, 16) := by kernel_rfl
theorem wp_app_str (w : World) {ops : Array Oper} {rest : List Oper} {o : Oper} {a : Act} {Q : Exit → Act → World → Prop} (hgd : o.guard = none) (s x : Operand)
    (ho : o.op = .call { callee := .builtin .append, args := #[s, x], argTypes := #[61, 61] })
    (base : Nat) (v : Value) (n : Nat) (ss : List Value) (y : ByteArray) (hs : a.eval s = v) (hown : w.ownsRow base 9 1 v n ss)
    (bl : Nat) (hbl : bl = w.heap.size) (hx : a.eval x = .slice (some ⟨bl, 0, none⟩) 1 1) (hn : n ≤ 4000000000) (hb : base ≤ w.heap.size)
    (h : ∀ v' w', w'.ownsRow base 9 1 v' (n + 1) (ss ++ [.string y]) → (w.alloc (.cells #[.string y] 9)).grownBy w' v.ownBlock → wpList Tryd.prog ops Q rest (a.put o.dst v') w') :
    wpList Tryd.prog ops Q (o :: rest) a (w.alloc (.cells #[.string y] 9)) := by
  subst hbl
  obtain ⟨i0, hi, hz0, hz1, hz2⟩ := info_parts infoStr
  refine wpList_append_own _ hgd s x 61 ho base 9 i0 _ 1 16 Tryd.underlying61 hi hz0 hz1 hz2 rfl (by decide) v n _ hs (hown.alloc _) ⟨w.heap.size, 0, none⟩ 1 1 [.string y] hx rfl ?_ ?_ ?_ ?_ ?_ ?_
  · intro j u hj
    have hB := blk_new w 9 #[.string y]
    have ha : (⟨w.heap.size, 0, none⟩ : Addr).add j = ⟨w.heap.size, j, none⟩ := by unfold Addr.add; split <;> simp_all
    rw [ha, blk_cell hB, ← hj, ← Array.getElem?_toList]
  · intro u hu
    simp only [List.mem_cons, List.not_mem_nil, or_false] at hu
    subst hu
    rfl
  · unfold maxLen; omega
  · omega
  · simp; omega
  · intro v' w' hown' hg' _
    exact h v' w' hown' hg'
def FmtRel (w : World) (ps : List Pkt) (n : Nat) (v i : Value) (wr : World) : Prop :=
  ∃ k : Nat, k ≤ n ∧ i = .int .i64 (k : Int) ∧ wr.ownsRow w.heap.size 9 1 v k ((ps.take k).map strV) ∧ Below w.heap.size w wr
theorem own_str {w : World} {base c n : Nat} {A : Option Addr} {ps : List Pkt} (h : w.ownsRow base 9 1 (.slice A n c) n (ps.map strV)) (hn : 0 < n) :
    ∃ g, A = some ⟨g, 0, none⟩ ∧ g < w.heap.size ∧ n ≤ c ∧ ∀ (j : Nat) x, (ps.map strP)[j]? = some x → w.cell? ⟨g, 0 + j, none⟩ = some (.string x) := by
  obtain ⟨g, cap, hv, _, hlt⟩ := h.form hn
  have hA : A = some ⟨g, 0, none⟩ := by injection hv
  subst hA
  obtain ⟨A', c', hv', hnc, _, _⟩ := own_form h
  have hc : c = c' := by injection hv'
  refine ⟨g, rfl, hlt, by omega, fun j x hj => ?_⟩
  have hcell := h.cells (g := g) rfl
  have ha : ∀ j, (⟨g, 0, none⟩ : Addr).add j = ⟨g, j, none⟩ := fun j => by unfold Addr.add; split <;> simp_all
  rw [Nat.zero_add, ← ha j]
  refine hcell j (.string x) ?_
  rw [List.getElem?_map] at hj ⊢
  rcases hp : ps[j]? with _ | p
  · rw [hp] at hj; cases hj
  · rw [hp] at hj
    have : strP p = x := by injection hj
    subst this
    rfl
theorem own_below1 {w w1 w2 : World} {base : Nat} {v : Value} {n : Nat} {xs : List Value} {e : TypeId} (ho : w1.ownsRow base e 1 v n xs) (hb : Below base w w1) {o : Obj} {w1' : World} (h1 : w1' = w1.alloc o) (hg : w1'.grownBy w2 v.ownBlock) (hs : base ≤ w1.heap.size) : Below base w w2 := by
  subst h1
  exact (hb.alloc hs o).grown hg (by simp; omega) fun k hk => (ho.lt k hk).1
set_option maxRecDepth 100000 in
set_option maxHeartbeats 4000000 in
theorem fmtsI_yes (A : Option Addr) (n c : Nat) (ps : List Pkt) (w : World) (h : PR w A n ps) (hn : n ≤ 9223372036854775807) (hok : okB ps = true) (ht : Tab w) :
    Calls Tryd.prog 19 #[.slice A n c] w fun e w' => e = .returned (.string (strJ ps)) ∧ Below w.heap.size w w' := by
  have hl : ps.length ≤ 64 := (ok_of hok).1
  have hn64 : n ≤ 64 := by have := h.1; omega
  have H := Lib.hid h
  have HK := Lib.hid hok
  have HT := Lib.hid ht
  clear h hok ht
  go_enter Tryd.func19, Tryd.ntmps19
  go_wp2_with fail
  refine (okI_any A n c ps _ H.out hn).mono ?_
  rintro e w1 ⟨rfl, hb⟩
  have B1 := Lib.hid hb
  rw [HK.out]
  clear hb
  go_wp2
  go_loopw [3, 11] (fun v i wr => FmtRel w ps n v i wr) (fun _ i _ => n - (intOf i).toNat)
  case atStart => exact ⟨0, Nat.zero_le _, rfl, by rw [List.take_zero]; exact World.ownsRow_nil _ _ _ _, B1.out⟩
  case round =>
    obtain ⟨k, hk, rfl, ho, hbl⟩ := hrel
    by_cases hlt : k < n
    · obtain ⟨b, off, p, rfl, hb, hp, c0, c1, c2, c3⟩ := pr_at (pr_below H.out hbl) hlt
      have HP := Lib.hid hp
      have HV := Lib.hid (ok_at HK.out hp)
      have HB := Lib.hid hbl
      have HO := Lib.hid ho
      have hsz := hbl.size
      clear hp hbl ho
      go_wp2_with fail
      refine (fmtI_pkt p _ HV.out (tab_below HT.out (below_alloc HB.out _))).mono ?_
      rintro e w2 ⟨rfl, hb2⟩
      have HO2 := Lib.hid (own_below (HO.out.alloc _) hb2)
      have HB2 := Lib.hid (below_seq (below_alloc HB.out _) hb2)
      have hsz2 := HB2.out.size
      clear hb2
      go_wp2_with (at_builtin; refine wp_app_str _ rfl (.tmp 15) (.tmp 18) rfl w.heap.size u3 k _ (strP p) rfl HO2.out _ (by simp) rfl (by omega) (by omega) ?_; intro v' w3 hown3 hg3)
      have L := own_below1 HO2.out HB2.out rfl hg3 (by omega)
      have HL := Lib.hid L
      clear L hg3
      have HW := Lib.hid hown3
      clear hown3
      go_wp2
      go_roundw
      case rel => exact ⟨k + 1, by omega, by go_num, by rw [take_snoc ps k p HP.out, List.map_append]; exact HW.out, HL.out⟩
      case measure => simp [intOf]; omega
    · obtain rfl : k = n := by omega
      obtain ⟨A2, c2, rfl, h1, h2, _⟩ := own_form ho
      have hps : ps.take k = ps := List.take_of_length_le (by have := H.out.1; omega)
      rw [hps] at ho
      have HB := Lib.hid hbl
      clear hps hbl
      by_cases h0 : k = 0
      · subst h0
        have hnil : ps = [] := List.eq_nil_of_length_eq_zero H.out.1
        have HN := Lib.hid hnil
        clear hnil ho
        go_wp2_with fail
        refine (Tryd.strings_Join_none A2 c2 _ _).mono ?_
        rintro e w2 ⟨rfl, rfl⟩
        go_wp2
        go_ret
        refine ⟨by rw [HN.out]; rfl, HB.out⟩
      · obtain ⟨g, rfl, hg, hcap, hcells⟩ := own_str ho (by omega)
        have HC := Lib.hid hcells
        have hlen : (ps.map strP).length = k := by rw [List.length_map]; exact H.out.1
        have HLn := Lib.hid hlen
        have hj : Lib.join ((ps.map strP).map (·.data.toList)) ((ByteArray.mk #[32]).data.toList) = joinT ps := by
          rw [List.map_map]; rfl
        have HJ := Lib.hid hj
        have hjl := joinT_len ps
        clear ho hcells hj hlen
        go_wp2_with fail
        have hJ := Tryd.strings_Join g 0 c2 (ps.map strP) ⟨#[32]⟩ wr HC.out hg (by rw [HLn.out]; omega) (by rw [HLn.out]; exact hcap) (by rw [HJ.out]; omega)
        rw [HLn.out, HJ.out] at hJ
        refine hJ.mono ?_
        clear hJ
        rintro e w2 ⟨rfl, hb2⟩
        have HB2 := Lib.hid (below_seq HB.out hb2)
        clear hb2
        go_wp2
        go_ret
        exact ⟨rfl, HB2.out⟩
set_option maxRecDepth 100000 in
set_option maxHeartbeats 400000 in
theorem fmtsI_no (A : Option Addr) (n c : Nat) (ps : List Pkt) (w : World) (h : PR w A n ps) (hn : n ≤ 9223372036854775807) (hok : okB ps = false) :
    Calls Tryd.prog 19 #[.slice A n c] w fun e w' => e = .returned (.string ⟨#[]⟩) ∧ Below w.heap.size w w' := by
  have H := Lib.hid h
  have HK := Lib.hid hok
  clear h hok
  go_enter Tryd.func19, Tryd.ntmps19
  go_wp2_with fail
  refine (okI_any A n c ps _ H.out hn).mono ?_
  rintro e w1 ⟨rfl, hb⟩
  have B1 := Lib.hid hb
  rw [HK.out]
  clear hb
  go_wp2
  go_ret
  exact ⟨rfl, B1.out⟩
end Go.Proofs.YtlnbhbjibkgjgaaDoor
