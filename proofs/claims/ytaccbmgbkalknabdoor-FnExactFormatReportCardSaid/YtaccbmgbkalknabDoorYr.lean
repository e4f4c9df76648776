/-
  Chapter 11: FormatReport: the text of counts and of bytes; what the program's function and the model's return. Conditions: the tables of strconv and the names of decisions hold what their text lays; at most 10000000 decisions.
-/
import Derived.Test.YtaccbmgbkalknabDoorY2
import Derived.Test.YtaccbmgbkalknabDoorFmt
import Derived.WalkSmall
import Derived.Deep.RegionHeld3
namespace Go.Proofs.YtaccbmgbkalknabDoor
open Go.RowKit

/-! the text -/
def nmL : Nat → List UInt8
  | 1 => [105, 110]
  | 2 => [98, 97, 110, 110, 101, 100]
  | 3 => [102, 97, 115, 116]
  | 4 => [98, 117, 115, 121]
  | 5 => [102, 117, 108, 108]
  | _ => []
def nmS (d : Nat) : ByteArray := ⟨(nmL d).toArray⟩
theorem nm_len (d : Nat) : (nmL d).length ≤ 6 := by
  rcases d with _ | _ | _ | _ | _ | _ | d <;> simp [nmL]
theorem nmS_size (d : Nat) : (nmS d).size ≤ 6 := by
  show (nmL d).toArray.size ≤ 6
  simpa using nm_len d
theorem nmS_data (d : Nat) : (nmS d).data.toList = nmL d := rfl
def dT (x : Int) : List UInt8 := decF 8 x.toNat
theorem dT_len (x : Int) : (dT x).length ≤ 8 := decF_len 8 _
def lnD (d : Nat) (x : Int) : List UInt8 := nmL d ++ 32 :: (dT x ++ [10])
def lnP (i : Nat) (x : Int) : List UInt8 := [112, 101, 101, 114, 32] ++ (dT (i : Int) ++ 32 :: (dT x ++ [10]))
def at0 (l : List Int) (k : Nat) : Int := l[k]?.getD 0
def dLn (cs : List Int) : Nat → List UInt8
  | 0 => []
  | k + 1 => dLn cs k ++ lnD (k + 1) (at0 cs (k + 1))
def pLn (bs : List Int) : Nat → List UInt8
  | 0 => []
  | k + 1 => pLn bs k ++ (if 0 < at0 bs k then lnP k (at0 bs k) else [])
theorem lnD_len (d : Nat) (x : Int) : (lnD d x).length ≤ 16 := by
  have := nm_len d
  have := dT_len x
  simp only [lnD, List.length_append, List.length_cons, List.length_nil]
  omega
theorem lnP_len (i : Nat) (x : Int) : (lnP i x).length ≤ 23 := by
  have := dT_len x
  have := dT_len (i : Int)
  simp only [lnP, List.length_append, List.length_cons, List.length_nil]
  omega
theorem dLn_len (cs : List Int) (k : Nat) : (dLn cs k).length ≤ 16 * k := by
  induction k with
  | zero => simp [dLn]
  | succ k ih =>
    have := lnD_len (k + 1) (at0 cs (k + 1))
    simp only [dLn, List.length_append]
    omega
theorem pLn_len (bs : List Int) (k : Nat) : (pLn bs k).length ≤ 23 * k := by
  induction k with
  | zero => simp [pLn]
  | succ k ih =>
    have := lnP_len k (at0 bs k)
    simp only [pLn, List.length_append]
    split
    · omega
    · simp; omega
def repL (us : List Int) (ps : List Pkt) : List UInt8 := if (decB us && bpB ps) = true then dLn (cdL us) 5 ++ pLn (bsL ps) 8 else []
def repS (us : List Int) (ps : List Pkt) : ByteArray := ⟨(repL us ps).toArray⟩
theorem str_of {s : ByteArray} {l : List UInt8} (h : s.data.toList = l) : s = ⟨l.toArray⟩ := str_eq h
theorem size_of {s : ByteArray} {l : List UInt8} (h : s.data.toList = l) : s.size = l.length := by rw [← h]; exact (len_bytes s).symm
/-- the program's order of sums -/
theorem lineI {s X D : ByteArray} {l x d : List UInt8} (hs : s.data.toList = l) (hx : X.data.toList = x) (hd : D.data.toList = d) : (s ++ (X ++ ⟨#[32]⟩ ++ D ++ ⟨#[10]⟩)).data.toList = l ++ (x ++ 32 :: (d ++ [10])) := by
  subst hs hx hd; simp
theorem lineS {s X D : ByteArray} {l x d : List UInt8} (hs : s.data.toList = l) (hx : X.data.toList = x) (hd : D.data.toList = d) : (s ++ X ++ ⟨#[32]⟩ ++ D ++ ⟨#[10]⟩).data.toList = l ++ (x ++ 32 :: (d ++ [10])) := by
  subst hs hx hd; simp
theorem peerI {s P D : ByteArray} {l p d : List UInt8} (hs : s.data.toList = l) (hp : P.data.toList = p) (hd : D.data.toList = d) : (s ++ (⟨#[112, 101, 101, 114, 32]⟩ ++ P ++ ⟨#[32]⟩ ++ D ++ ⟨#[10]⟩)).data.toList = l ++ ([112, 101, 101, 114, 32] ++ (p ++ 32 :: (d ++ [10]))) := by
  subst hs hp hd; simp
theorem peerS {s P D : ByteArray} {l p d : List UInt8} (hs : s.data.toList = l) (hp : P.data.toList = p) (hd : D.data.toList = d) : (s ++ ⟨#[112, 101, 101, 114, 32]⟩ ++ P ++ ⟨#[32]⟩ ++ D ++ ⟨#[10]⟩).data.toList = l ++ ([112, 101, 101, 114, 32] ++ (p ++ 32 :: (d ++ [10]))) := by
  subst hs hp hd; simp
theorem at0_of {l : List Int} {k : Nat} {x : Int} (h : l[k]? = some x) : at0 l k = x := by rw [at0, h]; rfl
theorem dLn_step {cs : List Int} {k : Nat} {x : Int} (hk : 1 ≤ k) (h : cs[k]? = some x) : dLn cs k = dLn cs (k - 1) ++ (nmL k ++ 32 :: (dT x ++ [10])) := by
  obtain ⟨m, rfl⟩ : ∃ m, k = m + 1 := ⟨k - 1, by omega⟩
  rw [Nat.add_sub_cancel, dLn, at0_of h]; rfl
theorem pLn_yes {bs : List Int} {k : Nat} {x : Int} (h : bs[k]? = some x) (hx : 0 < x) : pLn bs (k + 1) = pLn bs k ++ ([112, 101, 101, 114, 32] ++ (dT (k : Int) ++ 32 :: (dT x ++ [10]))) := by
  rw [pLn, at0_of h, if_pos hx]; rfl
theorem pLn_no {bs : List Int} {k : Nat} {x : Int} (h : bs[k]? = some x) (hx : ¬ 0 < x) : pLn bs (k + 1) = pLn bs k := by
  rw [pLn, at0_of h, if_neg hx, List.append_nil]
theorem cd_bdr {us : List Int} {n : Nat} (h : us.length = n) : ∀ x ∈ cdL us, 0 ≤ x ∧ x ≤ n := by
  intro x hx
  simp only [cdL, List.mem_cons, List.not_mem_nil, or_false] at hx
  rw [← h]
  rcases hx with rfl | rfl | rfl | rfl | rfl | rfl <;> exact cntI_bd _ _
theorem bs_bdr {ps : List Pkt} (h : bpB ps = true) : ∀ x ∈ bsL ps, 0 ≤ x ∧ x ≤ 100000 := by
  intro x hx
  have h1 := bp_of h
  have h2 : ∀ d, 0 ≤ bsz d ps ∧ bsz d ps ≤ 100000 := fun d => by have := bsz_bd (d := d) h1.2; omega
  simp only [bsL, List.mem_cons, List.not_mem_nil, or_false] at hx
  rcases hx with rfl | rfl | rfl | rfl | rfl | rfl | rfl | rfl <;> exact h2 _
/-- what a decimal's contract needs -/
theorem dec_of_int {x : Int} (h0 : 0 ≤ x) (h1 : x ≤ 10000000) : ∃ n : Nat, x = (n : Int) ∧ n ≤ 10000000 := ⟨x.toNat, by omega, by omega⟩
theorem dT_nat (n : Nat) : dT (n : Int) = decF 8 n := by rw [dT, Int.toNat_natCast]
/-- a slice of numbers that a call handed back, as one reads it -/
def RdR (w : World) (xs : List Int) (ok : Bool) (e : Ending) (w' : World) : Prop :=
  ∃ A n c, e = .returned (.tuple #[.slice A n c, .bool ok]) ∧ n = xs.length ∧ NR w' A n xs ∧ Below w.heap.size w w'
theorem rdr_of {w w' : World} {xs : List Int} {ok : Bool} {e : Ending} (h : LPq w xs ok e w') : RdR w xs ok e w' := by
  obtain ⟨A, n, c, h1, h2, h3, h4⟩ := h
  exact ⟨A, n, c, h1, h2, nr_own h3, h4⟩
theorem one_keep {w0 W w' : World} {b o : Nat} {a : Value} (hb0 : b < w0.heap.size) (hS : W.cell? ⟨b, o, none⟩ = some a ∧ Below w0.heap.size w0 W) (h : Below W.heap.size W w') : w'.cell? ⟨b, o, none⟩ = some a ∧ Below w0.heap.size w0 w' :=
  ⟨((bcell h).1 _ _ (Nat.lt_of_lt_of_le hb0 hS.2.size)).trans hS.1, below_seq hS.2 h⟩
theorem one_bel {w0 W : World} {b o : Nat} {a : Value} (hS : W.cell? ⟨b, o, none⟩ = some a ∧ Below w0.heap.size w0 W) : Below w0.heap.size w0 W := hS.2
/-- the names of the decisions, as the program's table holds them -/
def Nms (w : World) : Prop := 0 < w.heap.size ∧ ∀ d, 1 ≤ d → d ≤ 5 → w.cell? ⟨0, d, none⟩ = some (.string (nmS d))
theorem nms_below {w w' : World} (h : Nms w) (hb : Below w.heap.size w w') : Nms w' :=
  ⟨Nat.lt_of_lt_of_le h.1 hb.size, fun d h1 h2 => ((bcell hb).1 _ _ h.1).trans (h.2 d h1 h2)⟩
def Rr1 (w : World) (A B : Option Addr) (cs bs : List Int) (t i : Value) (wr : World) : Prop :=
  ∃ (k : Nat) (s : ByteArray), 1 ≤ k ∧ k ≤ 6 ∧ i = .int .i64 (k : Int) ∧ t = .string s ∧ s.data.toList = dLn cs (k - 1) ∧ NR wr A 6 cs ∧ NR wr B 8 bs ∧ Below w.heap.size w wr ∧ Tab wr ∧ Nms wr
def Rr2 (w : World) (B : Option Addr) (cs bs : List Int) (t i : Value) (wr : World) : Prop :=
  ∃ (k : Nat) (s : ByteArray), k ≤ 8 ∧ i = .int .i64 (k : Int) ∧ t = .string s ∧ s.data.toList = dLn cs 5 ++ pLn bs k ∧ NR wr B 8 bs ∧ Below w.heap.size w wr ∧ Tab wr
set_option maxRecDepth 100000 in
set_option maxHeartbeats 2000000 in
theorem repI_any (A : Option Addr) (n c : Nat) (us : List Int) (B : Option Addr) (m d : Nat) (ps : List Pkt) (w : World) (h : NR w A n us) (h2 : PR w B m ps) (hn : n ≤ 10000000) (hm : m ≤ 9223372036854775807) (ht : Tab w) (hN : Nms w) :
    Calls Tryd.prog 7 #[.slice A n c, .slice B m d] w fun e w' => e = .returned (.string (repS us ps)) ∧ Below w.heap.size w w' := by
  have H := Lib.hid h
  have H2 := Lib.hid h2
  have HT := Lib.hid ht
  have HN := Lib.hid hN
  clear h h2 ht hN
  obtain ⟨R, hR⟩ : ∃ R, R = repS us ps := ⟨_, rfl⟩
  have HR := Lib.hid hR
  rw [← hR]
  clear hR
  obtain ⟨cs, hcs⟩ : ∃ cs, cs = (if decB us = true then cdL us else []) := ⟨_, rfl⟩
  obtain ⟨o1, ho1⟩ : ∃ o1, o1 = decB us := ⟨_, rfl⟩
  obtain ⟨bs, hbs⟩ : ∃ bs, bs = (if bpB ps = true then bsL ps else []) := ⟨_, rfl⟩
  obtain ⟨o2, ho2⟩ : ∃ o2, o2 = bpB ps := ⟨_, rfl⟩
  have HCS := Lib.hid hcs
  have HO1 := Lib.hid ho1
  have HBS := Lib.hid hbs
  have HO2 := Lib.hid ho2
  clear hcs ho1 hbs ho2
  go_enter Tryd.func7, Tryd.ntmps7
  go_wp2_with fail
  refine (((cdI_any A n c us _ H.out (by omega)).mono fun _ _ => rdr_of)).mono ?_
  rw [← HCS.out, ← HO1.out]
  rintro e w1 ⟨A1, n1, c1, rfl, hn1, hr1, hb⟩
  have B1 := Lib.hid hb
  have X1 := Lib.hid hr1
  have L1 := Lib.hid hn1
  clear hb hr1 hn1
  go_wp2_with fail
  refine (((bbI_any B m d ps _ (pr_below H2.out B1.out) (by omega)).mono fun _ _ => rdr_of)).mono ?_
  rw [← HBS.out, ← HO2.out]
  rintro e w2 ⟨A2, n2, c2, rfl, hn2, hr2, hb⟩
  have B2 := Lib.hid (below_seq B1.out hb)
  have X2 := Lib.hid hr2
  have X12 := Lib.hid (nr_below X1.out hb)
  have L2 := Lib.hid hn2
  clear hb hr2 hn2
  rcases o1 with _ | _
  · obtain rfl : R = ⟨#[]⟩ := by rw [HR.out, repS, repL, ← HO1.out]; rfl
    go_wp2
    go_ret
    exact ⟨rfl, B2.out⟩
  · rcases o2 with _ | _
    · obtain rfl : R = ⟨#[]⟩ := by rw [HR.out, repS, repL, ← HO1.out, ← HO2.out]; rfl
      go_wp2
      go_ret
      exact ⟨rfl, B2.out⟩
    · have HE1 : Hid (cs = cdL us) := Lib.hid (by rw [HCS.out, ← HO1.out]; rfl)
      have HE2 : Hid (bs = bsL ps) := Lib.hid (by rw [HBS.out, ← HO2.out]; rfl)
      have HRR : Hid (R = ⟨(dLn cs 5 ++ pLn bs 8).toArray⟩) := Lib.hid (by rw [HR.out, repS, repL, ← HO1.out, ← HO2.out, HE1.out, HE2.out]; rfl)
      obtain rfl : n1 = 6 := by rw [L1.out, HE1.out]; rfl
      obtain rfl : n2 = 8 := by rw [L2.out, HE2.out]; rfl
      have HB1 : Hid (∀ x ∈ cs, 0 ≤ x ∧ x ≤ 10000000) := Lib.hid (fun x hx => by have := cd_bdr H.out.1 x (by rw [← HE1.out]; exact hx); omega)
      have HB2 : Hid (∀ x ∈ bs, 0 ≤ x ∧ x ≤ 100000) := Lib.hid (by rw [HE2.out]; exact bs_bdr HO2.out.symm)
      have R0 : Hid (Rr1 w A1 A2 cs bs (.string ⟨#[]⟩) (.int .i64 1) w2) := Lib.hid ⟨1, ⟨#[]⟩, Nat.le_refl _, by omega, rfl, rfl, rfl, X12.out, X2.out, B2.out, tab_below HT.out B2.out, nms_below HN.out B2.out⟩
      clear X1 X12 X2 L1 L2 B1
      go_wp2
      go_loopw [9, 10] (fun t i wr => Rr1 w A1 A2 cs bs t i wr) (fun _ i _ => 6 - (intOf i).toNat)
      case atStart => exact R0.out
      case round =>
        obtain ⟨k, s, hk1, hk6, rfl, rfl, hs, hr1, hr2, hbl, htab, hnm⟩ := hrel
        clear R0
        have HS := Lib.hid hs
        have hsz : s.size ≤ 96 := by rw [size_of hs]; have := dLn_len cs (k - 1); omega
        have X1 := Lib.hid hr1
        have X2 := Lib.hid hr2
        have HBL := Lib.hid hbl
        have HTB := Lib.hid htab
        have HNM := Lib.hid hnm
        by_cases hlt : k < 6
        · have k5 : (k : Int) ≤ 5 := by omega
          have k0 : (0 : Int) ≤ (k : Int) := by omega
          have k6 : (k : Int) < 6 := by omega
          obtain ⟨b, off, x, rfl, hb, hx, c0⟩ := nr_at hr1 hlt
          obtain ⟨x0, x1⟩ := HB1.out x (List.mem_of_getElem? hx)
          obtain ⟨v, rfl, hv⟩ := dec_of_int x0 x1
          obtain ⟨D, hD, eD, cD⟩ := itoa_big v hv
          obtain ⟨X, hX⟩ : ∃ X, X = nmS k := ⟨_, rfl⟩
          have hXs : X.size ≤ 6 := by rw [hX]; exact nmS_size k
          have g0 : wr.cell? ⟨0, k, none⟩ = some (.string X) := by rw [hX]; exact hnm.2 k hk1 (by omega)
          have gl := hnm.1
          have KD := Lib.hid cD
          have HLN : Hid ((s ++ (X ++ ⟨#[32]⟩ ++ D ++ ⟨#[10]⟩)).data.toList = dLn cs k) := Lib.hid (by rw [dLn_step hk1 hx, dT_nat]; exact lineI hs (by rw [hX]; rfl) eD)
          have y1 : ¬ 9223372036854775807 < X.size + 1 := by omega
          have y2 : ¬ 9223372036854775807 < X.size + 1 + D.size := by omega
          have y3 : ¬ 9223372036854775807 < X.size + 1 + D.size + 1 := by omega
          have y4 : ¬ 9223372036854775807 < s.size + (X.size + 1 + D.size + 1) := by omega
          have hS : (wr.drew.cell? ⟨b, off + k, none⟩ = some (.int .i64 (v : Int)) ∧ wr.drew.cell? ⟨0, k, none⟩ = some (.string X)) ∧ Below wr.heap.size wr wr.drew := ⟨⟨c0, g0⟩, (Below.refl _ _).drew⟩
          clear hs hr1 hr2 hbl htab hnm hx cD eD hX
          go_wp2_with fail
          go_region_held3 (fun w' => (w'.cell? ⟨b, off + k, none⟩ = some (.int .i64 (v : Int)) ∧ w'.cell? ⟨0, k, none⟩ = some (.string X)) ∧ Below wr.heap.size wr w')
            (first | (with_reducible assumption) | fail)
            (first
              | (go_at_call 19
                 refine (KD.out _ (tab_below HTB.out hS.2)).mono ?_
                 rintro e w3 ⟨rfl, hb3⟩
                 have hS3 : (w3.cell? ⟨b, off + k, none⟩ = some (.int .i64 (v : Int)) ∧ w3.cell? ⟨0, k, none⟩ = some (.string X)) ∧ Below wr.heap.size wr w3 := ⟨⟨((bcell hb3).1 _ _ hb).trans c0, ((bcell hb3).1 _ _ gl).trans g0⟩, below_seq hS.2 hb3⟩
                 have B3 := Lib.hid hS3.2
                 clear hb3))
          all_goals
            go_wp2
            go_roundw
            case rel => exact ⟨k + 1, _, by omega, by omega, by go_num, rfl, by rw [Nat.add_sub_cancel]; exact HLN.out, nr_below X1.out B3.out, nr_below X2.out B3.out, below_seq HBL.out B3.out, tab_below HTB.out B3.out, nms_below HNM.out B3.out⟩
            case measure => simp [intOf]; omega
        · obtain rfl : k = 6 := by omega
          rw [show ((6 : Nat) : Int) = 6 from rfl]
          have R1 : Hid (Rr2 w A2 cs bs (.string s) (.int .i64 0) wr) := Lib.hid ⟨0, s, Nat.zero_le _, rfl, rfl, by rw [pLn, List.append_nil]; exact hs, hr2, hbl, htab⟩
          clear hs hr1 hr2 hbl htab hnm HS X1 X2 HBL HTB HNM hsz
          go_wp2
          go_loopw [9, 48] (fun t i wr => Rr2 w A2 cs bs t i wr) (fun _ i _ => 8 - (intOf i).toNat)
          case atStart => exact R1.out
          case round =>
            obtain ⟨k, s, hk8, rfl, rfl, hs, hr2, hbl, htab⟩ := hrel
            clear R1
            have HS := Lib.hid hs
            have hsz : s.size ≤ 300 := by rw [size_of hs, List.length_append]; have := dLn_len cs 5; have := pLn_len bs k; omega
            have X2 := Lib.hid hr2
            have HBL := Lib.hid hbl
            have HTB := Lib.hid htab
            by_cases hlt : k < 8
            · have k0 : (0 : Int) ≤ (k : Int) := by omega
              have k6 : (k : Int) < 8 := by omega
              obtain ⟨b, off, x, rfl, hb, hx, c0⟩ := nr_at hr2 hlt
              obtain ⟨x0, x1⟩ := HB2.out x (List.mem_of_getElem? hx)
              by_cases hx0 : 0 < x
              · obtain ⟨v, rfl, hv⟩ := dec_of_int x0 (by omega)
                obtain ⟨D, hD, eD, cD⟩ := itoa_big v hv
                obtain ⟨P, hP, eP, cP⟩ := itoa_big k (by omega)
                have KD := Lib.hid cD
                have KP := Lib.hid cP
                have HLN : Hid ((s ++ (⟨#[112, 101, 101, 114, 32]⟩ ++ P ++ ⟨#[32]⟩ ++ D ++ ⟨#[10]⟩)).data.toList = dLn cs 5 ++ pLn bs (k + 1)) := Lib.hid (by rw [pLn_yes hx hx0, dT_nat, dT_nat, ← List.append_assoc]; exact peerI hs eP eD)
                have y1 : ¬ 9223372036854775807 < 5 + P.size := by omega
                have y2 : ¬ 9223372036854775807 < 5 + P.size + 1 := by omega
                have y3 : ¬ 9223372036854775807 < 5 + P.size + 1 + D.size := by omega
                have y4 : ¬ 9223372036854775807 < 5 + P.size + 1 + D.size + 1 := by omega
                have y5 : ¬ 9223372036854775807 < s.size + (5 + P.size + 1 + D.size + 1) := by omega
                clear hs hr2 hbl htab hx cD eD cP eP
                go_wp2_with fail
                refine (KP.out _ HTB.out).mono ?_
                rintro e w3 ⟨rfl, hb3⟩
                have T3 := Lib.hid (tab_below HTB.out hb3)
                have B3 := Lib.hid hb3
                clear hb3
                go_wp2_with fail
                refine (KD.out _ T3.out).mono ?_
                rintro e w4 ⟨rfl, hb4⟩
                have B4 := Lib.hid (below_seq B3.out hb4)
                clear hb4
                go_wp2
                go_roundw
                case rel => exact ⟨k + 1, _, by omega, by go_num, rfl, HLN.out, nr_below X2.out B4.out, below_seq HBL.out B4.out, tab_below HTB.out B4.out⟩
                case measure => simp [intOf]; omega
              · have HLN : Hid (s.data.toList = dLn cs 5 ++ pLn bs (k + 1)) := Lib.hid (by rw [pLn_no hx hx0]; exact hs)
                clear hs hr2 hbl htab hx
                go_wp2
                go_roundw
                case rel => exact ⟨k + 1, _, by omega, by go_num, rfl, HLN.out, X2.out, HBL.out, HTB.out⟩
                case measure => simp [intOf]; omega
            · obtain rfl : k = 8 := by omega
              obtain rfl : R = s := by rw [HRR.out]; exact (str_of HS.out).symm
              clear hs hr2 hbl htab
              go_wp2
              go_ret
              exact ⟨rfl, HBL.out⟩
theorem dec_big (n : Nat) (hn : n ≤ 10000000) : ∃ A : ByteArray, A.size ≤ 8 ∧ A.data.toList = decF 8 n ∧ ∀ W : World, Calls Tryd.prog 22 #[.int .i64 (n : Int)] W fun e w' => e = .returned (.string A) ∧ Below W.heap.size W w' :=
  ⟨_, by show (decF 8 n).toArray.size ≤ 8; simpa using decF_len 8 n, rfl, fun W => l13Dec_big n W hn⟩
def WdB (w : World) (b : Nat) : Prop := b < w.heap.size ∧ ∀ d, 1 ≤ d → d ≤ 5 → w.cell? ⟨b, d, none⟩ = some (.string (nmS d))
theorem wd_below {w w' : World} {b : Nat} (h : WdB w b) (hb : Below w.heap.size w w') : WdB w' b :=
  ⟨Nat.lt_of_lt_of_le h.1 hb.size, fun d h1 h2 => ((bcell hb).1 _ _ h.1).trans (h.2 d h1 h2)⟩
def Sr1 (w : World) (A B : Option Addr) (g : Nat) (cs bs : List Int) (t i : Value) (wr : World) : Prop :=
  ∃ (k : Nat) (s : ByteArray), 1 ≤ k ∧ k ≤ 6 ∧ i = .int .i64 (k : Int) ∧ t = .string s ∧ s.data.toList = dLn cs (k - 1) ∧ NR wr A 6 cs ∧ NR wr B 8 bs ∧ Below w.heap.size w wr ∧ WdB wr g
def Sr2 (w : World) (B : Option Addr) (cs bs : List Int) (t i : Value) (wr : World) : Prop :=
  ∃ (k : Nat) (s : ByteArray), k ≤ 8 ∧ i = .int .i64 (k : Int) ∧ t = .string s ∧ s.data.toList = dLn cs 5 ++ pLn bs k ∧ NR wr B 8 bs ∧ Below w.heap.size w wr
theorem wd_new (w : World) : WdB (w.alloc (.cells #[.string ⟨#[]⟩, .string ⟨#[105, 110]⟩, .string ⟨#[98, 97, 110, 110, 101, 100]⟩, .string ⟨#[102, 97, 115, 116]⟩, .string ⟨#[98, 117, 115, 121]⟩, .string ⟨#[102, 117, 108, 108]⟩] 9)) w.heap.size := by
  refine ⟨by simp, fun d h1 h5 => ?_⟩
  rw [blk_cell (blk_new w _ _)]
  rcases d with _ | _ | _ | _ | _ | _ | d
  · omega
  all_goals first | rfl | omega
set_option maxRecDepth 100000 in
set_option maxHeartbeats 2000000 in
theorem repS_any (A : Option Addr) (n c : Nat) (us : List Int) (B : Option Addr) (m d : Nat) (ps : List Pkt) (w : World) (h : NR w A n us) (h2 : PR w B m ps) (hn : n ≤ 10000000) (hm : m ≤ 4000000000) :
    Calls Tryd.prog 8 #[.slice A n c, .slice B m d] w fun e w' => e = .returned (.string (repS us ps)) ∧ Below w.heap.size w w' := by
  have H := Lib.hid h
  have H2 := Lib.hid h2
  clear h h2
  obtain ⟨R, hR⟩ : ∃ R, R = repS us ps := ⟨_, rfl⟩
  have HR := Lib.hid hR
  rw [← hR]
  clear hR
  obtain ⟨cs, hcs⟩ : ∃ cs, cs = (if decB us = true then cdL us else []) := ⟨_, rfl⟩
  obtain ⟨o1, ho1⟩ : ∃ o1, o1 = decB us := ⟨_, rfl⟩
  obtain ⟨bs, hbs⟩ : ∃ bs, bs = (if bpB ps = true then bsL ps else []) := ⟨_, rfl⟩
  obtain ⟨o2, ho2⟩ : ∃ o2, o2 = bpB ps := ⟨_, rfl⟩
  have HCS := Lib.hid hcs
  have HO1 := Lib.hid ho1
  have HBS := Lib.hid hbs
  have HO2 := Lib.hid ho2
  clear hcs ho1 hbs ho2
  go_enter Tryd.func8, Tryd.ntmps8
  go_wp2_with fail
  refine (((cdS_any A n c us _ H.out (by omega)).mono fun _ _ => rdr_of)).mono ?_
  rw [← HCS.out, ← HO1.out]
  rintro e w1 ⟨A1, n1, c1, rfl, hn1, hr1, hb⟩
  have B1 := Lib.hid hb
  have X1 := Lib.hid hr1
  have L1 := Lib.hid hn1
  clear hb hr1 hn1
  go_wp2_with fail
  refine (((bbS_any B m d ps _ (pr_below H2.out B1.out) (by omega)).mono fun _ _ => rdr_of)).mono ?_
  rw [← HBS.out, ← HO2.out]
  rintro e w2 ⟨A2, n2, c2, rfl, hn2, hr2, hb⟩
  have B2 := Lib.hid (below_seq B1.out hb)
  have X2 := Lib.hid hr2
  have X12 := Lib.hid (nr_below X1.out hb)
  have L2 := Lib.hid hn2
  clear hb hr2 hn2
  rcases o1 with _ | _
  · obtain rfl : R = ⟨#[]⟩ := by rw [HR.out, repS, repL, ← HO1.out]; rfl
    go_wp2
    go_ret
    exact ⟨rfl, B2.out⟩
  · rcases o2 with _ | _
    · obtain rfl : R = ⟨#[]⟩ := by rw [HR.out, repS, repL, ← HO1.out, ← HO2.out]; rfl
      go_wp2
      go_ret
      exact ⟨rfl, B2.out⟩
    · have HE1 : Hid (cs = cdL us) := Lib.hid (by rw [HCS.out, ← HO1.out]; rfl)
      have HE2 : Hid (bs = bsL ps) := Lib.hid (by rw [HBS.out, ← HO2.out]; rfl)
      have HRR : Hid (R = ⟨(dLn cs 5 ++ pLn bs 8).toArray⟩) := Lib.hid (by rw [HR.out, repS, repL, ← HO1.out, ← HO2.out, HE1.out, HE2.out]; rfl)
      obtain rfl : n1 = 6 := by rw [L1.out, HE1.out]; rfl
      obtain rfl : n2 = 8 := by rw [L2.out, HE2.out]; rfl
      have HB1 : Hid (∀ x ∈ cs, 0 ≤ x ∧ x ≤ 10000000) := Lib.hid (fun x hx => by have := cd_bdr H.out.1 x (by rw [← HE1.out]; exact hx); omega)
      have HB2 : Hid (∀ x ∈ bs, 0 ≤ x ∧ x ≤ 100000) := Lib.hid (by rw [HE2.out]; exact bs_bdr HO2.out.symm)
      have R0 : Hid (Sr1 w A1 A2 w2.heap.size cs bs (.string ⟨#[]⟩) (.int .i64 1) (w2.alloc (.cells #[.string ⟨#[]⟩, .string ⟨#[105, 110]⟩, .string ⟨#[98, 97, 110, 110, 101, 100]⟩, .string ⟨#[102, 97, 115, 116]⟩, .string ⟨#[98, 117, 115, 121]⟩, .string ⟨#[102, 117, 108, 108]⟩] 9))) := Lib.hid ⟨1, ⟨#[]⟩, Nat.le_refl _, by omega, rfl, rfl, rfl, nr_alloc X12.out _, nr_alloc X2.out _, below_alloc B2.out _, wd_new w2⟩
      clear X1 X12 X2 L1 L2 B1
      go_wp2
      go_loopw [10, 11] (fun t i wr => Sr1 w A1 A2 w2.heap.size cs bs t i wr) (fun _ i _ => 6 - (intOf i).toNat)
      case atStart => exact R0.out
      case round =>
        obtain ⟨k, s, hk1, hk6, rfl, rfl, hs, hr1, hr2, hbl, hnm⟩ := hrel
        clear R0
        have HS := Lib.hid hs
        have hsz : s.size ≤ 96 := by rw [size_of hs]; have := dLn_len cs (k - 1); omega
        have X1 := Lib.hid hr1
        have X2 := Lib.hid hr2
        have HBL := Lib.hid hbl
        have HNM := Lib.hid hnm
        by_cases hlt : k < 6
        · have k5 : (k : Int) ≤ 5 := by omega
          have k0 : (0 : Int) ≤ (k : Int) := by omega
          have k6 : (k : Int) < 6 := by omega
          obtain ⟨b, off, x, rfl, hb, hx, c0⟩ := nr_at hr1 hlt
          obtain ⟨x0, x1⟩ := HB1.out x (List.mem_of_getElem? hx)
          obtain ⟨v, rfl, hv⟩ := dec_of_int x0 x1
          obtain ⟨D, hD, eD, cD⟩ := dec_big v hv
          obtain ⟨X, hX⟩ : ∃ X, X = nmS k := ⟨_, rfl⟩
          have hXs : X.size ≤ 6 := by rw [hX]; exact nmS_size k
          have g0 : wr.cell? ⟨w2.heap.size, k, none⟩ = some (.string X) := by rw [hX]; exact hnm.2 k hk1 (by omega)
          have gl := hnm.1
          have KD := Lib.hid cD
          have HLN : Hid ((s ++ X ++ ⟨#[32]⟩ ++ D ++ ⟨#[10]⟩).data.toList = dLn cs k) := Lib.hid (by rw [dLn_step hk1 hx, dT_nat]; exact lineS hs (by rw [hX]; rfl) eD)
          have y1 : ¬ 9223372036854775807 < s.size + X.size := by omega
          have y2 : ¬ 9223372036854775807 < s.size + X.size + 1 := by omega
          have y3 : ¬ 9223372036854775807 < s.size + X.size + 1 + D.size := by omega
          have y4 : ¬ 9223372036854775807 < s.size + X.size + 1 + D.size + 1 := by omega
          have hS : (wr.drew.cell? ⟨b, off + k, none⟩ = some (.int .i64 (v : Int)) ∧ wr.drew.cell? ⟨w2.heap.size, k, none⟩ = some (.string X)) ∧ Below wr.heap.size wr wr.drew := ⟨⟨c0, g0⟩, (Below.refl _ _).drew⟩
          clear hs hr1 hr2 hbl hnm hx cD eD hX
          go_wp2_with fail
          go_region_held3 (fun w' => (w'.cell? ⟨b, off + k, none⟩ = some (.int .i64 (v : Int)) ∧ w'.cell? ⟨w2.heap.size, k, none⟩ = some (.string X)) ∧ Below wr.heap.size wr w')
            (first | (with_reducible assumption) | fail)
            (first
              | (go_at_call 22
                 refine (KD.out _).mono ?_
                 rintro e w3 ⟨rfl, hb3⟩
                 have hS3 : (w3.cell? ⟨b, off + k, none⟩ = some (.int .i64 (v : Int)) ∧ w3.cell? ⟨w2.heap.size, k, none⟩ = some (.string X)) ∧ Below wr.heap.size wr w3 := ⟨⟨((bcell hb3).1 _ _ hb).trans c0, ((bcell hb3).1 _ _ gl).trans g0⟩, below_seq hS.2 hb3⟩
                 have B3 := Lib.hid hS3.2
                 clear hb3))
          all_goals
            go_wp2
            go_roundw
            case rel => exact ⟨k + 1, _, by omega, by omega, by go_num, rfl, by rw [Nat.add_sub_cancel]; exact HLN.out, nr_below X1.out B3.out, nr_below X2.out B3.out, below_seq HBL.out B3.out, wd_below HNM.out B3.out⟩
            case measure => simp [intOf]; omega
        · obtain rfl : k = 6 := by omega
          rw [show ((6 : Nat) : Int) = 6 from rfl]
          have R1 : Hid (Sr2 w A2 cs bs (.string s) (.int .i64 0) wr) := Lib.hid ⟨0, s, Nat.zero_le _, rfl, rfl, by rw [pLn, List.append_nil]; exact hs, hr2, hbl⟩
          clear hs hr1 hr2 hbl hnm HS X1 X2 HBL HNM hsz
          go_wp2
          go_loopw [10, 12] (fun t i wr => Sr2 w A2 cs bs t i wr) (fun _ i _ => 8 - (intOf i).toNat)
          case atStart => exact R1.out
          case round =>
            obtain ⟨k, s, hk8, rfl, rfl, hs, hr2, hbl⟩ := hrel
            clear R1
            have HS := Lib.hid hs
            have hsz : s.size ≤ 300 := by rw [size_of hs, List.length_append]; have := dLn_len cs 5; have := pLn_len bs k; omega
            have X2 := Lib.hid hr2
            have HBL := Lib.hid hbl
            by_cases hlt : k < 8
            · have k0 : (0 : Int) ≤ (k : Int) := by omega
              have k6 : (k : Int) < 8 := by omega
              obtain ⟨b, off, x, rfl, hb, hx, c0⟩ := nr_at hr2 hlt
              obtain ⟨x0, x1⟩ := HB2.out x (List.mem_of_getElem? hx)
              by_cases hx0 : 0 < x
              · obtain ⟨v, rfl, hv⟩ := dec_of_int x0 (by omega)
                obtain ⟨D, hD, eD, cD⟩ := dec_big v hv
                obtain ⟨P, hP, eP, cP⟩ := dec_big k (by omega)
                have KD := Lib.hid cD
                have KP := Lib.hid cP
                have HLN : Hid ((s ++ ⟨#[112, 101, 101, 114, 32]⟩ ++ P ++ ⟨#[32]⟩ ++ D ++ ⟨#[10]⟩).data.toList = dLn cs 5 ++ pLn bs (k + 1)) := Lib.hid (by rw [pLn_yes hx hx0, dT_nat, dT_nat, ← List.append_assoc]; exact peerS hs eP eD)
                have y1 : ¬ 9223372036854775807 < s.size + 5 := by omega
                have y2 : ¬ 9223372036854775807 < s.size + 5 + P.size := by omega
                have y3 : ¬ 9223372036854775807 < s.size + 5 + P.size + 1 := by omega
                have y4 : ¬ 9223372036854775807 < s.size + 5 + P.size + 1 + D.size := by omega
                have y5 : ¬ 9223372036854775807 < s.size + 5 + P.size + 1 + D.size + 1 := by omega
                have hS : wr.drew.cell? ⟨b, off + k, none⟩ = some (.int .i64 (v : Int)) ∧ Below wr.heap.size wr wr.drew := ⟨c0, (Below.refl _ _).drew⟩
                clear hs hr2 hbl hx cD eD cP eP
                go_wp2_with fail
                go_region_held3 (fun w' => w'.cell? ⟨b, off + k, none⟩ = some (.int .i64 (v : Int)) ∧ Below wr.heap.size wr w')
                  (first | (with_reducible assumption) | fail)
                  (first
                    | (go_at_call 22
                       first
                         | with_reducible refine (KP.out _).mono ?_
                         | with_reducible refine (KD.out _).mono ?_
                       rintro e w3 ⟨rfl, hb3⟩
                       have hS3 := one_keep (w0 := wr) (b := b) (o := off + k) (a := .int .i64 (v : Int)) hb (by assumption) hb3
                       clear hb3))
                all_goals
                  have B4 := Lib.hid (one_bel (w0 := wr) (b := b) (o := off + k) (a := .int .i64 (v : Int)) (by assumption))
                  go_wp2
                  go_roundw
                  case rel => exact ⟨k + 1, _, by omega, by go_num, rfl, HLN.out, nr_below X2.out B4.out, below_seq HBL.out B4.out⟩
                  case measure => simp [intOf]; omega
              · have HLN : Hid (s.data.toList = dLn cs 5 ++ pLn bs (k + 1)) := Lib.hid (by rw [pLn_no hx hx0]; exact hs)
                clear hs hr2 hbl hx
                go_wp2
                go_roundw
                case rel => exact ⟨k + 1, _, by omega, by go_num, rfl, HLN.out, X2.out, HBL.out⟩
                case measure => simp [intOf]; omega
            · obtain rfl : k = 8 := by omega
              obtain rfl : R = s := by rw [HRR.out]; exact (str_of HS.out).symm
              clear hs hr2 hbl
              go_wp2
              go_ret
              exact ⟨rfl, HBL.out⟩
end Go.Proofs.YtaccbmgbkalknabDoor
