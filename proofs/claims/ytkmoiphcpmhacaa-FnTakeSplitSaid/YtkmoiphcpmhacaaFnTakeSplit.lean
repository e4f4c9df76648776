/-
  The law FnTakeSplit returns true at every argument: taking in parts is taking at once. Conditions: none.
-/
import Derived.Test.YtkmoiphcpmhacaaKb
import Derived.Test.YtkmoiphcpmhacaaKy
import Derived.Test.YtkmoiphcpmhacaaKw
import Derived.Test.YtkmoiphcpmhacaaMay
import Derived.Test.YtkmoiphcpmhacaaLifts
import Derived.Test.YtkmoiphcpmhacaaMake
namespace Go.Proofs.Ytkmoiphcpmhacaa.fnTakeSplit
open Go.ChangeShapes Go.WideShapes Go.ChangeAt Go.RowKit

theorem app_below {w w1 w2 : World} {base : Nat} {v : Value} {n : Nat} {xs : List Value} {e : TypeId} (ho : w1.ownsRow base e 4 v n xs) (hb : Below base w w1) (hg : w1.grownBy w2 v.ownBlock) (hs : base ≤ w1.heap.size) : Below base w w2 :=
  hb.grown hg hs fun k hk => (ho.lt k hk).1
theorem wpl_app_pkts_g (w : World) {ops : Array Oper} {rest : List Oper} {o : Oper} {a : Act} {Q : Exit → Act → World → Prop} (hw : Region.wanted o (yielded ops a.tmps) = true) (s x : Operand)
    (ho : o.op = .call { callee := .builtin .append, args := #[s, x], argTypes := #[45, 45] })
    (base : Nat) (v : Value) (n : Nat) (ps : List Pkt) (hs : a.eval s = v) (hown : w.ownsRow base 29 4 v n (pcells ps))
    (A : Option Addr) (m c : Nat) (qs : List Pkt) (hx : a.eval x = .slice A m c) (hr : PR w A m qs) (hn : n + m ≤ 4000000000) (hb : base ≤ w.heap.size)
    (h : ∀ v' w', w'.ownsRow base 29 4 v' (n + m) (pcells (ps ++ qs)) → w.grownBy w' v.ownBlock → (v'.ownBlock = v.ownBlock ∨ v'.ownBlock = some w.heap.size) → wpList Try.prog ops Q rest (a.put o.dst v') w') :
    wpList Try.prog ops Q (o :: rest) a w := by
  refine BigFrame.wpList_want hw fun K hK => ?_
  obtain ⟨v', w', hr', h2, h3, h4⟩ := run_app_pkts w o.type base v n ps hown A m c qs hr hn hb
  unfold Oper.wp execOp
  simp only [ho, resolve, invoke, builtin, Sem.run_bind, Sem.run_pure, Result.andThen_ok, List.map_toArray, List.map_cons, List.map_nil, hs, hx, hr']
  exact hK _ _ (h v' w' h2 h3 h4)
set_option maxRecDepth 100000 in
set_option maxHeartbeats 8000000 in
theorem walk (A : Option Addr) (n c : Nat) (w : World) (h : Bytes w A n c) :
    Calls Try.prog 6 #[.slice A n c] w fun e w' => e = .returned (.bool true) ∧ Below w.heap.size w w' := by
  have HB := Lib.hid h
  clear h
  by_cases hbig : ¬ n ≤ 1048576
  · go_enter Try.func6, Try.ntmps6
    go_wp2
    go_ret
    exact ⟨rfl, Below.refl _ _⟩
  have hbig' : n ≤ 1048576 := by omega
  clear hbig
  go_enter Try.func6, Try.ntmps6
  go_wp2_with fail
  refine (drawTakeLanes_any A n c _ HB.out).mono ?_
  rintro e w1 ⟨A1, n1, c1, J1, d1, C1, f1, l, x, rfl, hx1, hl, hb⟩
  obtain ⟨hc1, hf1⟩ := bcell hb
  have B1 := Lib.hid (show Below w.heap.size w w1 from (by first | exact below_seq (Below.refl w.heap.size w) hb | exact below_seq1 (Below.refl w.heap.size w) hb | exact below_seq2 (Below.refl w.heap.size w) hb | exact below_seq3 (Below.refl w.heap.size w) hb | exact below_seq4 (Below.refl w.heap.size w) hb))
  have R1 := Lib.hid hb
  have hz1 := hb.size
  try simp at hz1
  clear hb
  have H := Lib.hid hl
  clear hl
  by_cases hk : LV l ∧ 0 ≤ x
  · obtain ⟨b, rfl⟩ : ∃ b : Nat, x = (b : Int) := ⟨x.toNat, by omega⟩
    have hb100 : b ≤ 100 := by omega
    have HOK := Lib.hid hk.1
    clear hk
    obtain ⟨l2, hl2⟩ : ∃ l2, l2 = (tkN b l).1 := ⟨_, rfl⟩
    obtain ⟨ps, hps⟩ : ∃ ps, ps = (tkN b l).2 := ⟨_, rfl⟩
    have HL2 := Lib.hid hl2
    have HPS := Lib.hid hps
    clear hl2 hps
    go_wp2_with fail
    refine (tkI_rd A1 n1 c1 J1 4 d1 C1 4 f1 l _ (by first | with_reducible exact H.out | with_reducible exact lr_alloc H.out _ | with_reducible exact lr_alloc (lr_alloc H.out _) _ | with_reducible exact lr_alloc (lr_alloc (lr_alloc H.out _) _) _) b HOK.out).mono ?_
    rintro e w2 ⟨A2, n2, c2, J2, m2, d2, C2, o2, f2, D2, t2, e2, rfl, hx, hp, q2, hb⟩
    obtain ⟨hc2, hf2⟩ := bcell hb
    have B2 := Lib.hid (show Below w.heap.size w w2 from (by first | exact below_seq B1.out hb | exact below_seq1 B1.out hb | exact below_seq2 B1.out hb | exact below_seq3 B1.out hb | exact below_seq4 B1.out hb))
    have R2 := Lib.hid hb
    have hz2 := hb.size
    try simp at hz2
    clear hb
    try have y20 : w.heap.size < w2.heap.size := by omega
    try have y20a : w.heap.size + 1 < w2.heap.size := by omega
    try have y20b : w.heap.size < w2.heap.size + 1 + 1 := by omega
    try have y20c : w.heap.size + 1 < w2.heap.size + 1 + 1 := by omega
    try have y21 : w1.heap.size < w2.heap.size := by omega
    try have y21a : w1.heap.size + 1 < w2.heap.size := by omega
    try have y21b : w1.heap.size < w2.heap.size + 1 + 1 := by omega
    try have y21c : w1.heap.size + 1 < w2.heap.size + 1 + 1 := by omega
    rw [← HL2.out] at hx
    rw [← HPS.out] at hp
    have X := Lib.hid hx
    have G := Lib.hid hp
    clear hx hp
    replace H := Lib.hid (show LR w2 _ _ _ _ _ _ _ from (by first | with_reducible exact lr_below H.out R2.out | with_reducible exact lr_below (lr_alloc H.out _) R2.out | with_reducible exact lr_below (lr_alloc (lr_alloc H.out _) _) R2.out | with_reducible exact lr_below (lr_alloc (lr_alloc (lr_alloc H.out _) _) _) R2.out))
    go_wp2_with fail
    refine (tkS_rd A1 n1 c1 J1 4 d1 C1 4 f1 l _ (by first | with_reducible exact H.out | with_reducible exact lr_alloc H.out _ | with_reducible exact lr_alloc (lr_alloc H.out _) _ | with_reducible exact lr_alloc (lr_alloc (lr_alloc H.out _) _) _) b HOK.out).mono ?_
    rintro e w3 ⟨A3, n3, c3, J3, m3, d3, C3, o3, f3, D3, t3, e3, rfl, hx, hp, q3, hb⟩
    obtain ⟨hc3, hf3⟩ := bcell hb
    have B3 := Lib.hid (show Below w.heap.size w w3 from (by first | exact below_seq B2.out hb | exact below_seq1 B2.out hb | exact below_seq2 B2.out hb | exact below_seq3 B2.out hb | exact below_seq4 B2.out hb))
    have R3 := Lib.hid hb
    have hz3 := hb.size
    try simp at hz3
    clear hb
    try have y30 : w.heap.size < w3.heap.size := by omega
    try have y30a : w.heap.size + 1 < w3.heap.size := by omega
    try have y30b : w.heap.size < w3.heap.size + 1 + 1 := by omega
    try have y30c : w.heap.size + 1 < w3.heap.size + 1 + 1 := by omega
    try have y31 : w1.heap.size < w3.heap.size := by omega
    try have y31a : w1.heap.size + 1 < w3.heap.size := by omega
    try have y31b : w1.heap.size < w3.heap.size + 1 + 1 := by omega
    try have y31c : w1.heap.size + 1 < w3.heap.size + 1 + 1 := by omega
    try have y32 : w2.heap.size < w3.heap.size := by omega
    try have y32a : w2.heap.size + 1 < w3.heap.size := by omega
    try have y32b : w2.heap.size < w3.heap.size + 1 + 1 := by omega
    try have y32c : w2.heap.size + 1 < w3.heap.size + 1 + 1 := by omega
    rw [← HL2.out] at hx
    rw [← HPS.out] at hp
    have Y := Lib.hid hx
    have K := Lib.hid hp
    clear hx hp
    replace H := Lib.hid (show LR w3 _ _ _ _ _ _ _ from (by first | with_reducible exact lr_below H.out R3.out | with_reducible exact lr_below (lr_alloc H.out _) R3.out | with_reducible exact lr_below (lr_alloc (lr_alloc H.out _) _) R3.out | with_reducible exact lr_below (lr_alloc (lr_alloc (lr_alloc H.out _) _) _) R3.out))
    replace X := Lib.hid (show LR w3 _ _ _ _ _ _ _ from (by first | with_reducible exact lr_below X.out R3.out | with_reducible exact lr_below (lr_alloc X.out _) R3.out | with_reducible exact lr_below (lr_alloc (lr_alloc X.out _) _) R3.out | with_reducible exact lr_below (lr_alloc (lr_alloc (lr_alloc X.out _) _) _) R3.out))
    replace G := Lib.hid (show PR w3 _ _ _ from (by first | with_reducible exact pr_below G.out R3.out | with_reducible exact pr_below (pr_alloc G.out _) R3.out | with_reducible exact pr_below (pr_alloc (pr_alloc G.out _) _) R3.out | with_reducible exact pr_below (pr_alloc (pr_alloc (pr_alloc G.out _) _) _) R3.out))
    go_wp2_with fail
    refine (sameLI_any A2 n2 c2 J2 m2 d2 C2 o2 f2 l2 A3 n3 c3 J3 m3 d3 C3 o3 f3 l2 _ (by first | with_reducible exact X.out | with_reducible exact lr_alloc X.out _ | with_reducible exact lr_alloc (lr_alloc X.out _) _ | with_reducible exact lr_alloc (lr_alloc (lr_alloc X.out _) _) _) (by first | with_reducible exact Y.out | with_reducible exact lr_alloc Y.out _ | with_reducible exact lr_alloc (lr_alloc Y.out _) _ | with_reducible exact lr_alloc (lr_alloc (lr_alloc Y.out _) _) _)).mono ?_
    rintro e w4 ⟨rfl, hb⟩
    obtain ⟨hc4, hf4⟩ := bcell hb
    have B4 := Lib.hid (show Below w.heap.size w w4 from (by first | exact below_seq B3.out hb | exact below_seq1 B3.out hb | exact below_seq2 B3.out hb | exact below_seq3 B3.out hb | exact below_seq4 B3.out hb))
    have R4 := Lib.hid hb
    have hz4 := hb.size
    try simp at hz4
    clear hb
    try have y40 : w.heap.size < w4.heap.size := by omega
    try have y40a : w.heap.size + 1 < w4.heap.size := by omega
    try have y40b : w.heap.size < w4.heap.size + 1 + 1 := by omega
    try have y40c : w.heap.size + 1 < w4.heap.size + 1 + 1 := by omega
    try have y41 : w1.heap.size < w4.heap.size := by omega
    try have y41a : w1.heap.size + 1 < w4.heap.size := by omega
    try have y41b : w1.heap.size < w4.heap.size + 1 + 1 := by omega
    try have y41c : w1.heap.size + 1 < w4.heap.size + 1 + 1 := by omega
    try have y42 : w2.heap.size < w4.heap.size := by omega
    try have y42a : w2.heap.size + 1 < w4.heap.size := by omega
    try have y42b : w2.heap.size < w4.heap.size + 1 + 1 := by omega
    try have y42c : w2.heap.size + 1 < w4.heap.size + 1 + 1 := by omega
    try have y43 : w3.heap.size < w4.heap.size := by omega
    try have y43a : w3.heap.size + 1 < w4.heap.size := by omega
    try have y43b : w3.heap.size < w4.heap.size + 1 + 1 := by omega
    try have y43c : w3.heap.size + 1 < w4.heap.size + 1 + 1 := by omega
    rw [ls_refl]
    replace H := Lib.hid (show LR w4 _ _ _ _ _ _ _ from (by first | with_reducible exact lr_below H.out R4.out | with_reducible exact lr_below (lr_alloc H.out _) R4.out | with_reducible exact lr_below (lr_alloc (lr_alloc H.out _) _) R4.out | with_reducible exact lr_below (lr_alloc (lr_alloc (lr_alloc H.out _) _) _) R4.out))
    replace X := Lib.hid (show LR w4 _ _ _ _ _ _ _ from (by first | with_reducible exact lr_below X.out R4.out | with_reducible exact lr_below (lr_alloc X.out _) R4.out | with_reducible exact lr_below (lr_alloc (lr_alloc X.out _) _) R4.out | with_reducible exact lr_below (lr_alloc (lr_alloc (lr_alloc X.out _) _) _) R4.out))
    replace G := Lib.hid (show PR w4 _ _ _ from (by first | with_reducible exact pr_below G.out R4.out | with_reducible exact pr_below (pr_alloc G.out _) R4.out | with_reducible exact pr_below (pr_alloc (pr_alloc G.out _) _) R4.out | with_reducible exact pr_below (pr_alloc (pr_alloc (pr_alloc G.out _) _) _) R4.out))
    replace K := Lib.hid (show PR w4 _ _ _ from (by first | with_reducible exact pr_below K.out R4.out | with_reducible exact pr_below (pr_alloc K.out _) R4.out | with_reducible exact pr_below (pr_alloc (pr_alloc K.out _) _) R4.out | with_reducible exact pr_below (pr_alloc (pr_alloc (pr_alloc K.out _) _) _) R4.out))
    clear Y
    go_wp2_with fail
    refine (sameI_any D2 D3 t2 e2 t3 e3 ps ps _ (by first | with_reducible exact G.out | with_reducible exact pr_alloc G.out _ | with_reducible exact pr_alloc (pr_alloc G.out _) _ | with_reducible exact pr_alloc (pr_alloc (pr_alloc G.out _) _) _) (by first | with_reducible exact K.out | with_reducible exact pr_alloc K.out _ | with_reducible exact pr_alloc (pr_alloc K.out _) _ | with_reducible exact pr_alloc (pr_alloc (pr_alloc K.out _) _) _) (by omega) (by omega)).mono ?_
    rintro e w5 ⟨rfl, hb⟩
    obtain ⟨hc5, hf5⟩ := bcell hb
    have B5 := Lib.hid (show Below w.heap.size w w5 from (by first | exact below_seq B4.out hb | exact below_seq1 B4.out hb | exact below_seq2 B4.out hb | exact below_seq3 B4.out hb | exact below_seq4 B4.out hb))
    have R5 := Lib.hid hb
    have hz5 := hb.size
    try simp at hz5
    clear hb
    try have y50 : w.heap.size < w5.heap.size := by omega
    try have y50a : w.heap.size + 1 < w5.heap.size := by omega
    try have y50b : w.heap.size < w5.heap.size + 1 + 1 := by omega
    try have y50c : w.heap.size + 1 < w5.heap.size + 1 + 1 := by omega
    try have y51 : w1.heap.size < w5.heap.size := by omega
    try have y51a : w1.heap.size + 1 < w5.heap.size := by omega
    try have y51b : w1.heap.size < w5.heap.size + 1 + 1 := by omega
    try have y51c : w1.heap.size + 1 < w5.heap.size + 1 + 1 := by omega
    try have y52 : w2.heap.size < w5.heap.size := by omega
    try have y52a : w2.heap.size + 1 < w5.heap.size := by omega
    try have y52b : w2.heap.size < w5.heap.size + 1 + 1 := by omega
    try have y52c : w2.heap.size + 1 < w5.heap.size + 1 + 1 := by omega
    try have y53 : w3.heap.size < w5.heap.size := by omega
    try have y53a : w3.heap.size + 1 < w5.heap.size := by omega
    try have y53b : w3.heap.size < w5.heap.size + 1 + 1 := by omega
    try have y53c : w3.heap.size + 1 < w5.heap.size + 1 + 1 := by omega
    try have y54 : w4.heap.size < w5.heap.size := by omega
    try have y54a : w4.heap.size + 1 < w5.heap.size := by omega
    try have y54b : w4.heap.size < w5.heap.size + 1 + 1 := by omega
    try have y54c : w4.heap.size + 1 < w5.heap.size + 1 + 1 := by omega
    rw [← same_yes rfl]
    replace H := Lib.hid (show LR w5 _ _ _ _ _ _ _ from (by first | with_reducible exact lr_below H.out R5.out | with_reducible exact lr_below (lr_alloc H.out _) R5.out | with_reducible exact lr_below (lr_alloc (lr_alloc H.out _) _) R5.out | with_reducible exact lr_below (lr_alloc (lr_alloc (lr_alloc H.out _) _) _) R5.out))
    replace X := Lib.hid (show LR w5 _ _ _ _ _ _ _ from (by first | with_reducible exact lr_below X.out R5.out | with_reducible exact lr_below (lr_alloc X.out _) R5.out | with_reducible exact lr_below (lr_alloc (lr_alloc X.out _) _) R5.out | with_reducible exact lr_below (lr_alloc (lr_alloc (lr_alloc X.out _) _) _) R5.out))
    replace G := Lib.hid (show PR w5 _ _ _ from (by first | with_reducible exact pr_below G.out R5.out | with_reducible exact pr_below (pr_alloc G.out _) R5.out | with_reducible exact pr_below (pr_alloc (pr_alloc G.out _) _) R5.out | with_reducible exact pr_below (pr_alloc (pr_alloc (pr_alloc G.out _) _) _) R5.out))
    clear K

    obtain ⟨k, hk⟩ : ∃ k, k = b / 2 := ⟨_, rfl⟩
    obtain ⟨j, hj⟩ : ∃ j, j = b - k := ⟨_, rfl⟩
    have td : ((b : Int).tdiv 2) = (k : Int) := by rw [Int.tdiv_eq_ediv_of_nonneg (by omega)]; omega
    have td2 : ((b : Int) / 2) = (k : Int) := by omega
    have tw : IntKind.i64.wrap (k : Int) = (k : Int) := IntWalk.i64_in _ (by omega)
    have ts : IntKind.i64.wrap ((b : Int) - (k : Int)) = (j : Int) := by rw [IntWalk.i64_in _ (by omega)]; omega
    have HB2 := Lib.hid (show b = k + j by omega)
    have hk50 : k ≤ 100 ∧ j ≤ 100 := by omega
    clear hk hj
    obtain ⟨l6, hl6⟩ : ∃ l6, l6 = (tkN k l).1 := ⟨_, rfl⟩
    obtain ⟨p6, hp6⟩ : ∃ p6, p6 = (tkN k l).2 := ⟨_, rfl⟩
    obtain ⟨p7, hp7⟩ : ∃ p7, p7 = (tkN j l6).2 := ⟨_, rfl⟩
    have HV6 := Lib.hid (show LV l6 by rw [hl6]; exact (tkN_valid k l HOK.out).1)
    have HL6 := Lib.hid hl6
    have HP6 := Lib.hid hp6
    have HP7 := Lib.hid hp7
    have S7 := Lib.hid (show l2 = (tkN j l6).1 by rw [HL2.out, HB2.out, tkN_split, hl6])
    have S8 := Lib.hid (show ps = p6 ++ p7 by rw [HPS.out, HB2.out, tkN_split, hp6, hp7, hl6])
    clear hl6 hp6 hp7
    go_wp2_with fail
    refine (tkI_rd A1 n1 c1 J1 4 d1 C1 4 f1 l _ (by first | with_reducible exact H.out | with_reducible exact lr_alloc H.out _ | with_reducible exact lr_alloc (lr_alloc H.out _) _ | with_reducible exact lr_alloc (lr_alloc (lr_alloc H.out _) _) _) k HOK.out).mono ?_
    rintro e w6 ⟨A6, n6, c6, J6, m6, d6, C6, o6, f6, D6, t6, e6, rfl, hx, hp, q6, hb⟩
    obtain ⟨hc6, hf6⟩ := bcell hb
    have B6 := Lib.hid (show Below w.heap.size w w6 from (by first | exact below_seq B5.out hb | exact below_seq1 B5.out hb | exact below_seq2 B5.out hb | exact below_seq3 B5.out hb | exact below_seq4 B5.out hb))
    have R6 := Lib.hid hb
    have hz6 := hb.size
    try simp at hz6
    clear hb
    try have y60 : w.heap.size < w6.heap.size := by omega
    try have y60a : w.heap.size + 1 < w6.heap.size := by omega
    try have y60b : w.heap.size < w6.heap.size + 1 + 1 := by omega
    try have y60c : w.heap.size + 1 < w6.heap.size + 1 + 1 := by omega
    try have y61 : w1.heap.size < w6.heap.size := by omega
    try have y61a : w1.heap.size + 1 < w6.heap.size := by omega
    try have y61b : w1.heap.size < w6.heap.size + 1 + 1 := by omega
    try have y61c : w1.heap.size + 1 < w6.heap.size + 1 + 1 := by omega
    try have y62 : w2.heap.size < w6.heap.size := by omega
    try have y62a : w2.heap.size + 1 < w6.heap.size := by omega
    try have y62b : w2.heap.size < w6.heap.size + 1 + 1 := by omega
    try have y62c : w2.heap.size + 1 < w6.heap.size + 1 + 1 := by omega
    try have y63 : w3.heap.size < w6.heap.size := by omega
    try have y63a : w3.heap.size + 1 < w6.heap.size := by omega
    try have y63b : w3.heap.size < w6.heap.size + 1 + 1 := by omega
    try have y63c : w3.heap.size + 1 < w6.heap.size + 1 + 1 := by omega
    try have y64 : w4.heap.size < w6.heap.size := by omega
    try have y64a : w4.heap.size + 1 < w6.heap.size := by omega
    try have y64b : w4.heap.size < w6.heap.size + 1 + 1 := by omega
    try have y64c : w4.heap.size + 1 < w6.heap.size + 1 + 1 := by omega
    try have y65 : w5.heap.size < w6.heap.size := by omega
    try have y65a : w5.heap.size + 1 < w6.heap.size := by omega
    try have y65b : w5.heap.size < w6.heap.size + 1 + 1 := by omega
    try have y65c : w5.heap.size + 1 < w6.heap.size + 1 + 1 := by omega
    rw [← HL6.out] at hx
    rw [← HP6.out] at hp
    have U := Lib.hid hx
    have M := Lib.hid hp
    clear hx hp
    replace X := Lib.hid (show LR w6 _ _ _ _ _ _ _ from (by first | with_reducible exact lr_below X.out R6.out | with_reducible exact lr_below (lr_alloc X.out _) R6.out | with_reducible exact lr_below (lr_alloc (lr_alloc X.out _) _) R6.out | with_reducible exact lr_below (lr_alloc (lr_alloc (lr_alloc X.out _) _) _) R6.out))
    replace G := Lib.hid (show PR w6 _ _ _ from (by first | with_reducible exact pr_below G.out R6.out | with_reducible exact pr_below (pr_alloc G.out _) R6.out | with_reducible exact pr_below (pr_alloc (pr_alloc G.out _) _) R6.out | with_reducible exact pr_below (pr_alloc (pr_alloc (pr_alloc G.out _) _) _) R6.out))
    clear H
    go_wp2_with fail
    refine (tkI_rd A6 n6 c6 J6 m6 d6 C6 o6 f6 l6 _ (by first | with_reducible exact U.out | with_reducible exact lr_alloc U.out _ | with_reducible exact lr_alloc (lr_alloc U.out _) _ | with_reducible exact lr_alloc (lr_alloc (lr_alloc U.out _) _) _) j HV6.out).mono ?_
    rintro e w7 ⟨A7, n7, c7, J7, m7, d7, C7, o7, f7, D7, t7, e7, rfl, hx, hp, q7, hb⟩
    obtain ⟨hc7, hf7⟩ := bcell hb
    have B7 := Lib.hid (show Below w.heap.size w w7 from (by first | exact below_seq B6.out hb | exact below_seq1 B6.out hb | exact below_seq2 B6.out hb | exact below_seq3 B6.out hb | exact below_seq4 B6.out hb))
    have R7 := Lib.hid hb
    have hz7 := hb.size
    try simp at hz7
    clear hb
    try have y70 : w.heap.size < w7.heap.size := by omega
    try have y70a : w.heap.size + 1 < w7.heap.size := by omega
    try have y70b : w.heap.size < w7.heap.size + 1 + 1 := by omega
    try have y70c : w.heap.size + 1 < w7.heap.size + 1 + 1 := by omega
    try have y71 : w1.heap.size < w7.heap.size := by omega
    try have y71a : w1.heap.size + 1 < w7.heap.size := by omega
    try have y71b : w1.heap.size < w7.heap.size + 1 + 1 := by omega
    try have y71c : w1.heap.size + 1 < w7.heap.size + 1 + 1 := by omega
    try have y72 : w2.heap.size < w7.heap.size := by omega
    try have y72a : w2.heap.size + 1 < w7.heap.size := by omega
    try have y72b : w2.heap.size < w7.heap.size + 1 + 1 := by omega
    try have y72c : w2.heap.size + 1 < w7.heap.size + 1 + 1 := by omega
    try have y73 : w3.heap.size < w7.heap.size := by omega
    try have y73a : w3.heap.size + 1 < w7.heap.size := by omega
    try have y73b : w3.heap.size < w7.heap.size + 1 + 1 := by omega
    try have y73c : w3.heap.size + 1 < w7.heap.size + 1 + 1 := by omega
    try have y74 : w4.heap.size < w7.heap.size := by omega
    try have y74a : w4.heap.size + 1 < w7.heap.size := by omega
    try have y74b : w4.heap.size < w7.heap.size + 1 + 1 := by omega
    try have y74c : w4.heap.size + 1 < w7.heap.size + 1 + 1 := by omega
    try have y75 : w5.heap.size < w7.heap.size := by omega
    try have y75a : w5.heap.size + 1 < w7.heap.size := by omega
    try have y75b : w5.heap.size < w7.heap.size + 1 + 1 := by omega
    try have y75c : w5.heap.size + 1 < w7.heap.size + 1 + 1 := by omega
    try have y76 : w6.heap.size < w7.heap.size := by omega
    try have y76a : w6.heap.size + 1 < w7.heap.size := by omega
    try have y76b : w6.heap.size < w7.heap.size + 1 + 1 := by omega
    try have y76c : w6.heap.size + 1 < w7.heap.size + 1 + 1 := by omega
    rw [← S7.out] at hx
    rw [← HP7.out] at hp
    have V := Lib.hid hx
    have N := Lib.hid hp
    clear hx hp
    replace X := Lib.hid (show LR w7 _ _ _ _ _ _ _ from (by first | with_reducible exact lr_below X.out R7.out | with_reducible exact lr_below (lr_alloc X.out _) R7.out | with_reducible exact lr_below (lr_alloc (lr_alloc X.out _) _) R7.out | with_reducible exact lr_below (lr_alloc (lr_alloc (lr_alloc X.out _) _) _) R7.out))
    replace G := Lib.hid (show PR w7 _ _ _ from (by first | with_reducible exact pr_below G.out R7.out | with_reducible exact pr_below (pr_alloc G.out _) R7.out | with_reducible exact pr_below (pr_alloc (pr_alloc G.out _) _) R7.out | with_reducible exact pr_below (pr_alloc (pr_alloc (pr_alloc G.out _) _) _) R7.out))
    replace M := Lib.hid (show PR w7 _ _ _ from (by first | with_reducible exact pr_below M.out R7.out | with_reducible exact pr_below (pr_alloc M.out _) R7.out | with_reducible exact pr_below (pr_alloc (pr_alloc M.out _) _) R7.out | with_reducible exact pr_below (pr_alloc (pr_alloc (pr_alloc M.out _) _) _) R7.out))
    clear U
    go_wp2_with fail
    refine (sameLI_any A7 n7 c7 J7 m7 d7 C7 o7 f7 l2 A2 n2 c2 J2 m2 d2 C2 o2 f2 l2 _ (by first | with_reducible exact V.out | with_reducible exact lr_alloc V.out _ | with_reducible exact lr_alloc (lr_alloc V.out _) _ | with_reducible exact lr_alloc (lr_alloc (lr_alloc V.out _) _) _) (by first | with_reducible exact X.out | with_reducible exact lr_alloc X.out _ | with_reducible exact lr_alloc (lr_alloc X.out _) _ | with_reducible exact lr_alloc (lr_alloc (lr_alloc X.out _) _) _)).mono ?_
    rintro e w8 ⟨rfl, hb⟩
    obtain ⟨hc8, hf8⟩ := bcell hb
    have B8 := Lib.hid (show Below w.heap.size w w8 from (by first | exact below_seq B7.out hb | exact below_seq1 B7.out hb | exact below_seq2 B7.out hb | exact below_seq3 B7.out hb | exact below_seq4 B7.out hb))
    have R8 := Lib.hid hb
    have hz8 := hb.size
    try simp at hz8
    clear hb
    try have y80 : w.heap.size < w8.heap.size := by omega
    try have y80a : w.heap.size + 1 < w8.heap.size := by omega
    try have y80b : w.heap.size < w8.heap.size + 1 + 1 := by omega
    try have y80c : w.heap.size + 1 < w8.heap.size + 1 + 1 := by omega
    try have y81 : w1.heap.size < w8.heap.size := by omega
    try have y81a : w1.heap.size + 1 < w8.heap.size := by omega
    try have y81b : w1.heap.size < w8.heap.size + 1 + 1 := by omega
    try have y81c : w1.heap.size + 1 < w8.heap.size + 1 + 1 := by omega
    try have y82 : w2.heap.size < w8.heap.size := by omega
    try have y82a : w2.heap.size + 1 < w8.heap.size := by omega
    try have y82b : w2.heap.size < w8.heap.size + 1 + 1 := by omega
    try have y82c : w2.heap.size + 1 < w8.heap.size + 1 + 1 := by omega
    try have y83 : w3.heap.size < w8.heap.size := by omega
    try have y83a : w3.heap.size + 1 < w8.heap.size := by omega
    try have y83b : w3.heap.size < w8.heap.size + 1 + 1 := by omega
    try have y83c : w3.heap.size + 1 < w8.heap.size + 1 + 1 := by omega
    try have y84 : w4.heap.size < w8.heap.size := by omega
    try have y84a : w4.heap.size + 1 < w8.heap.size := by omega
    try have y84b : w4.heap.size < w8.heap.size + 1 + 1 := by omega
    try have y84c : w4.heap.size + 1 < w8.heap.size + 1 + 1 := by omega
    try have y85 : w5.heap.size < w8.heap.size := by omega
    try have y85a : w5.heap.size + 1 < w8.heap.size := by omega
    try have y85b : w5.heap.size < w8.heap.size + 1 + 1 := by omega
    try have y85c : w5.heap.size + 1 < w8.heap.size + 1 + 1 := by omega
    try have y86 : w6.heap.size < w8.heap.size := by omega
    try have y86a : w6.heap.size + 1 < w8.heap.size := by omega
    try have y86b : w6.heap.size < w8.heap.size + 1 + 1 := by omega
    try have y86c : w6.heap.size + 1 < w8.heap.size + 1 + 1 := by omega
    try have y87 : w7.heap.size < w8.heap.size := by omega
    try have y87a : w7.heap.size + 1 < w8.heap.size := by omega
    try have y87b : w7.heap.size < w8.heap.size + 1 + 1 := by omega
    try have y87c : w7.heap.size + 1 < w8.heap.size + 1 + 1 := by omega
    rw [ls_refl]
    replace G := Lib.hid (show PR w8 _ _ _ from (by first | with_reducible exact pr_below G.out R8.out | with_reducible exact pr_below (pr_alloc G.out _) R8.out | with_reducible exact pr_below (pr_alloc (pr_alloc G.out _) _) R8.out | with_reducible exact pr_below (pr_alloc (pr_alloc (pr_alloc G.out _) _) _) R8.out))
    replace M := Lib.hid (show PR w8 _ _ _ from (by first | with_reducible exact pr_below M.out R8.out | with_reducible exact pr_below (pr_alloc M.out _) R8.out | with_reducible exact pr_below (pr_alloc (pr_alloc M.out _) _) R8.out | with_reducible exact pr_below (pr_alloc (pr_alloc (pr_alloc M.out _) _) _) R8.out))
    replace N := Lib.hid (show PR w8 _ _ _ from (by first | with_reducible exact pr_below N.out R8.out | with_reducible exact pr_below (pr_alloc N.out _) R8.out | with_reducible exact pr_below (pr_alloc (pr_alloc N.out _) _) R8.out | with_reducible exact pr_below (pr_alloc (pr_alloc (pr_alloc N.out _) _) _) R8.out))
    clear V X
    obtain ⟨s, hs⟩ : ∃ s, s = t6 + t7 := ⟨_, rfl⟩
    have HS := Lib.hid hs
    have ls : s ≤ 8192 := by omega
    have E0 := Lib.hid (own_empty (w := w8) (Below.refl _ _))
    clear hs
    go_wp2_with (first
      | (at_builtin
         refine wpl_app_pkts_g _ (by rfl) (.tmp 99) (.tmp 100) rfl w8.heap.size (.slice (some ⟨w8.heap.size, 0, none⟩) 0 0) 0 [] rfl E0.out D6 t6 e6 p6 rfl (pr_alloc M.out _) (by omega) (by simp) ?_
         intro v9 w9 ho9 hg9 hat9
         simp only [List.nil_append, Nat.zero_add] at ho9
         have T9 := Lib.hid (app_below E0.out (below_alloc (Below.refl _ _) _) hg9 (by simp))
         obtain ⟨A9, c9, rfl, -, -, -⟩ := own_form ho9
         have O9 := Lib.hid ho9
         have N9 := Lib.hid (pr_below N.out T9.out)
         clear ho9 hg9 E0)
      | (at_builtin
         refine wpl_app_pkts_g _ (by rfl) (.tmp 101) (.tmp 102) rfl w8.heap.size (.slice A9 t6 c9) t6 p6 rfl O9.out D7 t7 e7 p7 rfl N9.out (by omega) T9.out.size ?_
         intro v10 w10 ho10 hg10 hat10
         rw [← HS.out] at ho10
         have T10 := Lib.hid (app_below O9.out T9.out hg10 T9.out.size)
         obtain ⟨A10, c10, rfl, -, -, -⟩ := own_form ho10
         have O10 := Lib.hid (pr_own ho10)
         have G10 := Lib.hid (pr_below G.out T10.out)
         have B10 := Lib.hid (below_seq B8.out T10.out)
         clear ho10 hg10 T9 O9 N9 T10))
    refine (sameI_any A10 D2 s c10 t2 e2 (p6 ++ p7) ps _ O10.out G10.out (by omega) (by omega)).mono ?_
    rintro e w11 ⟨rfl, hb11⟩
    rw [← same_yes S8.out.symm]
    have B11 := Lib.hid (below_seq B10.out hb11)
    clear hb11
    go_wp2
    all_goals
      go_ret
      refine ⟨rfl, ?_⟩
      repeat refine below_alloc ?_ _
      exact B11.out

  · have HK := Lib.hid hk
    clear hk
    go_wp2_with fail
    refine (tkI_rdno A1 n1 c1 J1 4 d1 C1 4 f1 l _ (by first | with_reducible exact H.out | with_reducible exact lr_alloc H.out _ | with_reducible exact lr_alloc (lr_alloc H.out _) _ | with_reducible exact lr_alloc (lr_alloc (lr_alloc H.out _) _) _) x HK.out).mono ?_
    rintro e w2 ⟨A2, n2, c2, J2, m2, d2, C2, o2, f2, D2, t2, e2, rfl, hx, hp, q2, hb⟩
    obtain ⟨hc2, hf2⟩ := bcell hb
    have B2 := Lib.hid (show Below w.heap.size w w2 from (by first | exact below_seq B1.out hb | exact below_seq1 B1.out hb | exact below_seq2 B1.out hb | exact below_seq3 B1.out hb | exact below_seq4 B1.out hb))
    have R2 := Lib.hid hb
    have hz2 := hb.size
    try simp at hz2
    clear hb
    try have y20 : w.heap.size < w2.heap.size := by omega
    try have y20a : w.heap.size + 1 < w2.heap.size := by omega
    try have y20b : w.heap.size < w2.heap.size + 1 + 1 := by omega
    try have y20c : w.heap.size + 1 < w2.heap.size + 1 + 1 := by omega
    try have y21 : w1.heap.size < w2.heap.size := by omega
    try have y21a : w1.heap.size + 1 < w2.heap.size := by omega
    try have y21b : w1.heap.size < w2.heap.size + 1 + 1 := by omega
    try have y21c : w1.heap.size + 1 < w2.heap.size + 1 + 1 := by omega
    have X := Lib.hid hx
    have G := Lib.hid hp
    clear hx hp
    replace H := Lib.hid (show LR w2 _ _ _ _ _ _ _ from (by first | with_reducible exact lr_below H.out R2.out | with_reducible exact lr_below (lr_alloc H.out _) R2.out | with_reducible exact lr_below (lr_alloc (lr_alloc H.out _) _) R2.out | with_reducible exact lr_below (lr_alloc (lr_alloc (lr_alloc H.out _) _) _) R2.out))
    go_wp2_with fail
    refine (tkS_rdno A1 n1 c1 J1 4 d1 C1 4 f1 l _ (by first | with_reducible exact H.out | with_reducible exact lr_alloc H.out _ | with_reducible exact lr_alloc (lr_alloc H.out _) _ | with_reducible exact lr_alloc (lr_alloc (lr_alloc H.out _) _) _) x HK.out).mono ?_
    rintro e w3 ⟨A3, n3, c3, J3, m3, d3, C3, o3, f3, D3, t3, e3, rfl, hx, hp, q3, hb⟩
    obtain ⟨hc3, hf3⟩ := bcell hb
    have B3 := Lib.hid (show Below w.heap.size w w3 from (by first | exact below_seq B2.out hb | exact below_seq1 B2.out hb | exact below_seq2 B2.out hb | exact below_seq3 B2.out hb | exact below_seq4 B2.out hb))
    have R3 := Lib.hid hb
    have hz3 := hb.size
    try simp at hz3
    clear hb
    try have y30 : w.heap.size < w3.heap.size := by omega
    try have y30a : w.heap.size + 1 < w3.heap.size := by omega
    try have y30b : w.heap.size < w3.heap.size + 1 + 1 := by omega
    try have y30c : w.heap.size + 1 < w3.heap.size + 1 + 1 := by omega
    try have y31 : w1.heap.size < w3.heap.size := by omega
    try have y31a : w1.heap.size + 1 < w3.heap.size := by omega
    try have y31b : w1.heap.size < w3.heap.size + 1 + 1 := by omega
    try have y31c : w1.heap.size + 1 < w3.heap.size + 1 + 1 := by omega
    try have y32 : w2.heap.size < w3.heap.size := by omega
    try have y32a : w2.heap.size + 1 < w3.heap.size := by omega
    try have y32b : w2.heap.size < w3.heap.size + 1 + 1 := by omega
    try have y32c : w2.heap.size + 1 < w3.heap.size + 1 + 1 := by omega
    have Y := Lib.hid hx
    have K := Lib.hid hp
    clear hx hp
    replace X := Lib.hid (show LR w3 _ _ _ _ _ _ _ from (by first | with_reducible exact lr_below X.out R3.out | with_reducible exact lr_below (lr_alloc X.out _) R3.out | with_reducible exact lr_below (lr_alloc (lr_alloc X.out _) _) R3.out | with_reducible exact lr_below (lr_alloc (lr_alloc (lr_alloc X.out _) _) _) R3.out))
    replace G := Lib.hid (show PR w3 _ _ _ from (by first | with_reducible exact pr_below G.out R3.out | with_reducible exact pr_below (pr_alloc G.out _) R3.out | with_reducible exact pr_below (pr_alloc (pr_alloc G.out _) _) R3.out | with_reducible exact pr_below (pr_alloc (pr_alloc (pr_alloc G.out _) _) _) R3.out))
    go_wp2_with fail
    refine (sameLI_any A2 n2 c2 J2 m2 d2 C2 o2 f2 lnZ A3 n3 c3 J3 m3 d3 C3 o3 f3 lnZ _ (by first | with_reducible exact X.out | with_reducible exact lr_alloc X.out _ | with_reducible exact lr_alloc (lr_alloc X.out _) _ | with_reducible exact lr_alloc (lr_alloc (lr_alloc X.out _) _) _) (by first | with_reducible exact Y.out | with_reducible exact lr_alloc Y.out _ | with_reducible exact lr_alloc (lr_alloc Y.out _) _ | with_reducible exact lr_alloc (lr_alloc (lr_alloc Y.out _) _) _)).mono ?_
    rintro e w4 ⟨rfl, hb⟩
    obtain ⟨hc4, hf4⟩ := bcell hb
    have B4 := Lib.hid (show Below w.heap.size w w4 from (by first | exact below_seq B3.out hb | exact below_seq1 B3.out hb | exact below_seq2 B3.out hb | exact below_seq3 B3.out hb | exact below_seq4 B3.out hb))
    have R4 := Lib.hid hb
    have hz4 := hb.size
    try simp at hz4
    clear hb
    try have y40 : w.heap.size < w4.heap.size := by omega
    try have y40a : w.heap.size + 1 < w4.heap.size := by omega
    try have y40b : w.heap.size < w4.heap.size + 1 + 1 := by omega
    try have y40c : w.heap.size + 1 < w4.heap.size + 1 + 1 := by omega
    try have y41 : w1.heap.size < w4.heap.size := by omega
    try have y41a : w1.heap.size + 1 < w4.heap.size := by omega
    try have y41b : w1.heap.size < w4.heap.size + 1 + 1 := by omega
    try have y41c : w1.heap.size + 1 < w4.heap.size + 1 + 1 := by omega
    try have y42 : w2.heap.size < w4.heap.size := by omega
    try have y42a : w2.heap.size + 1 < w4.heap.size := by omega
    try have y42b : w2.heap.size < w4.heap.size + 1 + 1 := by omega
    try have y42c : w2.heap.size + 1 < w4.heap.size + 1 + 1 := by omega
    try have y43 : w3.heap.size < w4.heap.size := by omega
    try have y43a : w3.heap.size + 1 < w4.heap.size := by omega
    try have y43b : w3.heap.size < w4.heap.size + 1 + 1 := by omega
    try have y43c : w3.heap.size + 1 < w4.heap.size + 1 + 1 := by omega
    rw [ls_refl]
    replace X := Lib.hid (show LR w4 _ _ _ _ _ _ _ from (by first | with_reducible exact lr_below X.out R4.out | with_reducible exact lr_below (lr_alloc X.out _) R4.out | with_reducible exact lr_below (lr_alloc (lr_alloc X.out _) _) R4.out | with_reducible exact lr_below (lr_alloc (lr_alloc (lr_alloc X.out _) _) _) R4.out))
    replace Y := Lib.hid (show LR w4 _ _ _ _ _ _ _ from (by first | with_reducible exact lr_below Y.out R4.out | with_reducible exact lr_below (lr_alloc Y.out _) R4.out | with_reducible exact lr_below (lr_alloc (lr_alloc Y.out _) _) R4.out | with_reducible exact lr_below (lr_alloc (lr_alloc (lr_alloc Y.out _) _) _) R4.out))
    replace G := Lib.hid (show PR w4 _ _ _ from (by first | with_reducible exact pr_below G.out R4.out | with_reducible exact pr_below (pr_alloc G.out _) R4.out | with_reducible exact pr_below (pr_alloc (pr_alloc G.out _) _) R4.out | with_reducible exact pr_below (pr_alloc (pr_alloc (pr_alloc G.out _) _) _) R4.out))
    replace K := Lib.hid (show PR w4 _ _ _ from (by first | with_reducible exact pr_below K.out R4.out | with_reducible exact pr_below (pr_alloc K.out _) R4.out | with_reducible exact pr_below (pr_alloc (pr_alloc K.out _) _) R4.out | with_reducible exact pr_below (pr_alloc (pr_alloc (pr_alloc K.out _) _) _) R4.out))
    go_wp2_with fail
    refine (sameI_any D2 D3 t2 e2 t3 e3 [] [] _ (by first | with_reducible exact G.out | with_reducible exact pr_alloc G.out _ | with_reducible exact pr_alloc (pr_alloc G.out _) _ | with_reducible exact pr_alloc (pr_alloc (pr_alloc G.out _) _) _) (by first | with_reducible exact K.out | with_reducible exact pr_alloc K.out _ | with_reducible exact pr_alloc (pr_alloc K.out _) _ | with_reducible exact pr_alloc (pr_alloc (pr_alloc K.out _) _) _) (by omega) (by omega)).mono ?_
    rintro e w5 ⟨rfl, hb⟩
    obtain ⟨hc5, hf5⟩ := bcell hb
    have B5 := Lib.hid (show Below w.heap.size w w5 from (by first | exact below_seq B4.out hb | exact below_seq1 B4.out hb | exact below_seq2 B4.out hb | exact below_seq3 B4.out hb | exact below_seq4 B4.out hb))
    have R5 := Lib.hid hb
    have hz5 := hb.size
    try simp at hz5
    clear hb
    try have y50 : w.heap.size < w5.heap.size := by omega
    try have y50a : w.heap.size + 1 < w5.heap.size := by omega
    try have y50b : w.heap.size < w5.heap.size + 1 + 1 := by omega
    try have y50c : w.heap.size + 1 < w5.heap.size + 1 + 1 := by omega
    try have y51 : w1.heap.size < w5.heap.size := by omega
    try have y51a : w1.heap.size + 1 < w5.heap.size := by omega
    try have y51b : w1.heap.size < w5.heap.size + 1 + 1 := by omega
    try have y51c : w1.heap.size + 1 < w5.heap.size + 1 + 1 := by omega
    try have y52 : w2.heap.size < w5.heap.size := by omega
    try have y52a : w2.heap.size + 1 < w5.heap.size := by omega
    try have y52b : w2.heap.size < w5.heap.size + 1 + 1 := by omega
    try have y52c : w2.heap.size + 1 < w5.heap.size + 1 + 1 := by omega
    try have y53 : w3.heap.size < w5.heap.size := by omega
    try have y53a : w3.heap.size + 1 < w5.heap.size := by omega
    try have y53b : w3.heap.size < w5.heap.size + 1 + 1 := by omega
    try have y53c : w3.heap.size + 1 < w5.heap.size + 1 + 1 := by omega
    try have y54 : w4.heap.size < w5.heap.size := by omega
    try have y54a : w4.heap.size + 1 < w5.heap.size := by omega
    try have y54b : w4.heap.size < w5.heap.size + 1 + 1 := by omega
    try have y54c : w4.heap.size + 1 < w5.heap.size + 1 + 1 := by omega
    rw [← same_yes rfl]
    replace X := Lib.hid (show LR w5 _ _ _ _ _ _ _ from (by first | with_reducible exact lr_below X.out R5.out | with_reducible exact lr_below (lr_alloc X.out _) R5.out | with_reducible exact lr_below (lr_alloc (lr_alloc X.out _) _) R5.out | with_reducible exact lr_below (lr_alloc (lr_alloc (lr_alloc X.out _) _) _) R5.out))
    replace Y := Lib.hid (show LR w5 _ _ _ _ _ _ _ from (by first | with_reducible exact lr_below Y.out R5.out | with_reducible exact lr_below (lr_alloc Y.out _) R5.out | with_reducible exact lr_below (lr_alloc (lr_alloc Y.out _) _) R5.out | with_reducible exact lr_below (lr_alloc (lr_alloc (lr_alloc Y.out _) _) _) R5.out))
    replace G := Lib.hid (show PR w5 _ _ _ from (by first | with_reducible exact pr_below G.out R5.out | with_reducible exact pr_below (pr_alloc G.out _) R5.out | with_reducible exact pr_below (pr_alloc (pr_alloc G.out _) _) R5.out | with_reducible exact pr_below (pr_alloc (pr_alloc (pr_alloc G.out _) _) _) R5.out))
    replace K := Lib.hid (show PR w5 _ _ _ from (by first | with_reducible exact pr_below K.out R5.out | with_reducible exact pr_below (pr_alloc K.out _) R5.out | with_reducible exact pr_below (pr_alloc (pr_alloc K.out _) _) R5.out | with_reducible exact pr_below (pr_alloc (pr_alloc (pr_alloc K.out _) _) _) R5.out))
    go_wp2_with fail
    refine (sameLI_any A2 n2 c2 J2 m2 d2 C2 o2 f2 lnZ A3 n3 c3 J3 m3 d3 C3 o3 f3 lnZ _ (by first | with_reducible exact X.out | with_reducible exact lr_alloc X.out _ | with_reducible exact lr_alloc (lr_alloc X.out _) _ | with_reducible exact lr_alloc (lr_alloc (lr_alloc X.out _) _) _) (by first | with_reducible exact Y.out | with_reducible exact lr_alloc Y.out _ | with_reducible exact lr_alloc (lr_alloc Y.out _) _ | with_reducible exact lr_alloc (lr_alloc (lr_alloc Y.out _) _) _)).mono ?_
    rintro e w6 ⟨rfl, hb⟩
    obtain ⟨hc6, hf6⟩ := bcell hb
    have B6 := Lib.hid (show Below w.heap.size w w6 from (by first | exact below_seq B5.out hb | exact below_seq1 B5.out hb | exact below_seq2 B5.out hb | exact below_seq3 B5.out hb | exact below_seq4 B5.out hb))
    have R6 := Lib.hid hb
    have hz6 := hb.size
    try simp at hz6
    clear hb
    try have y60 : w.heap.size < w6.heap.size := by omega
    try have y60a : w.heap.size + 1 < w6.heap.size := by omega
    try have y60b : w.heap.size < w6.heap.size + 1 + 1 := by omega
    try have y60c : w.heap.size + 1 < w6.heap.size + 1 + 1 := by omega
    try have y61 : w1.heap.size < w6.heap.size := by omega
    try have y61a : w1.heap.size + 1 < w6.heap.size := by omega
    try have y61b : w1.heap.size < w6.heap.size + 1 + 1 := by omega
    try have y61c : w1.heap.size + 1 < w6.heap.size + 1 + 1 := by omega
    try have y62 : w2.heap.size < w6.heap.size := by omega
    try have y62a : w2.heap.size + 1 < w6.heap.size := by omega
    try have y62b : w2.heap.size < w6.heap.size + 1 + 1 := by omega
    try have y62c : w2.heap.size + 1 < w6.heap.size + 1 + 1 := by omega
    try have y63 : w3.heap.size < w6.heap.size := by omega
    try have y63a : w3.heap.size + 1 < w6.heap.size := by omega
    try have y63b : w3.heap.size < w6.heap.size + 1 + 1 := by omega
    try have y63c : w3.heap.size + 1 < w6.heap.size + 1 + 1 := by omega
    try have y64 : w4.heap.size < w6.heap.size := by omega
    try have y64a : w4.heap.size + 1 < w6.heap.size := by omega
    try have y64b : w4.heap.size < w6.heap.size + 1 + 1 := by omega
    try have y64c : w4.heap.size + 1 < w6.heap.size + 1 + 1 := by omega
    try have y65 : w5.heap.size < w6.heap.size := by omega
    try have y65a : w5.heap.size + 1 < w6.heap.size := by omega
    try have y65b : w5.heap.size < w6.heap.size + 1 + 1 := by omega
    try have y65c : w5.heap.size + 1 < w6.heap.size + 1 + 1 := by omega
    rw [ls_refl]
    replace G := Lib.hid (show PR w6 _ _ _ from (by first | with_reducible exact pr_below G.out R6.out | with_reducible exact pr_below (pr_alloc G.out _) R6.out | with_reducible exact pr_below (pr_alloc (pr_alloc G.out _) _) R6.out | with_reducible exact pr_below (pr_alloc (pr_alloc (pr_alloc G.out _) _) _) R6.out))
    replace K := Lib.hid (show PR w6 _ _ _ from (by first | with_reducible exact pr_below K.out R6.out | with_reducible exact pr_below (pr_alloc K.out _) R6.out | with_reducible exact pr_below (pr_alloc (pr_alloc K.out _) _) R6.out | with_reducible exact pr_below (pr_alloc (pr_alloc (pr_alloc K.out _) _) _) R6.out))
    go_wp2_with fail
    refine (sameI_any D2 D3 t2 e2 t3 e3 [] [] _ (by first | with_reducible exact G.out | with_reducible exact pr_alloc G.out _ | with_reducible exact pr_alloc (pr_alloc G.out _) _ | with_reducible exact pr_alloc (pr_alloc (pr_alloc G.out _) _) _) (by first | with_reducible exact K.out | with_reducible exact pr_alloc K.out _ | with_reducible exact pr_alloc (pr_alloc K.out _) _ | with_reducible exact pr_alloc (pr_alloc (pr_alloc K.out _) _) _) (by omega) (by omega)).mono ?_
    rintro e w7 ⟨rfl, hb⟩
    obtain ⟨hc7, hf7⟩ := bcell hb
    have B7 := Lib.hid (show Below w.heap.size w w7 from (by first | exact below_seq B6.out hb | exact below_seq1 B6.out hb | exact below_seq2 B6.out hb | exact below_seq3 B6.out hb | exact below_seq4 B6.out hb))
    have R7 := Lib.hid hb
    have hz7 := hb.size
    try simp at hz7
    clear hb
    try have y70 : w.heap.size < w7.heap.size := by omega
    try have y70a : w.heap.size + 1 < w7.heap.size := by omega
    try have y70b : w.heap.size < w7.heap.size + 1 + 1 := by omega
    try have y70c : w.heap.size + 1 < w7.heap.size + 1 + 1 := by omega
    try have y71 : w1.heap.size < w7.heap.size := by omega
    try have y71a : w1.heap.size + 1 < w7.heap.size := by omega
    try have y71b : w1.heap.size < w7.heap.size + 1 + 1 := by omega
    try have y71c : w1.heap.size + 1 < w7.heap.size + 1 + 1 := by omega
    try have y72 : w2.heap.size < w7.heap.size := by omega
    try have y72a : w2.heap.size + 1 < w7.heap.size := by omega
    try have y72b : w2.heap.size < w7.heap.size + 1 + 1 := by omega
    try have y72c : w2.heap.size + 1 < w7.heap.size + 1 + 1 := by omega
    try have y73 : w3.heap.size < w7.heap.size := by omega
    try have y73a : w3.heap.size + 1 < w7.heap.size := by omega
    try have y73b : w3.heap.size < w7.heap.size + 1 + 1 := by omega
    try have y73c : w3.heap.size + 1 < w7.heap.size + 1 + 1 := by omega
    try have y74 : w4.heap.size < w7.heap.size := by omega
    try have y74a : w4.heap.size + 1 < w7.heap.size := by omega
    try have y74b : w4.heap.size < w7.heap.size + 1 + 1 := by omega
    try have y74c : w4.heap.size + 1 < w7.heap.size + 1 + 1 := by omega
    try have y75 : w5.heap.size < w7.heap.size := by omega
    try have y75a : w5.heap.size + 1 < w7.heap.size := by omega
    try have y75b : w5.heap.size < w7.heap.size + 1 + 1 := by omega
    try have y75c : w5.heap.size + 1 < w7.heap.size + 1 + 1 := by omega
    try have y76 : w6.heap.size < w7.heap.size := by omega
    try have y76a : w6.heap.size + 1 < w7.heap.size := by omega
    try have y76b : w6.heap.size < w7.heap.size + 1 + 1 := by omega
    try have y76c : w6.heap.size + 1 < w7.heap.size + 1 + 1 := by omega
    rw [← same_yes rfl]
    go_wp2
    all_goals
      go_ret
      refine ⟨rfl, ?_⟩
      repeat refine below_alloc ?_ _
      exact B7.out
theorem own : ownKnob Try.prog.godebug = none := by kernel_rfl
theorem laidOut : laidOutB Try.prog = true := by kernel_rfl
set_option maxRecDepth 100000 in
theorem lifted (os : Os) (started : os.Started) (H : Type) (enc : TypeId × Value → H) :
    ReturnsInHanded {} Try.checked os 6 .any (Rows.fnTakeSplitSpec.pre6 enc Try.prog Try.f6 Rows.fnTakeSplitRow.domain false) (Rows.fnTakeSplitSpec.post enc Try.prog Try.f6 false true false false) := by
  refine returnsInHanded_of_change (C := Try.checked) own started (by kernel_rfl) Try.func6
    (ChangeSpec.witness6 (enc := enc) (C := Try.checked) false ⟨#[], #[.slice none 0 0], []⟩ 8 (by kernel_rfl) (by kernel_rfl) (by kernel_rfl) (by kernel_rfl)) ?_
  intro W base args ds gs before hval0 hW _ _
  have hval : ∀ (j : Nat) t v, Try.f6.params[j]? = some t → args[j]? = some v → Value.okWide Try.prog W .any base t v := hval0
  have hW' := hW
  obtain ⟨p, q, hA0, hV, rfl, _, _⟩ := hW
  have hA : DataW.TrodAll enc Try.prog W 0 (fun _ => true) true Try.f6.params.toList args.toList ds p := hA0
  rw [Try.params6] at hA hval
  obtain ⟨v0, vs0, d0, ds0, p0, q0, hargs, rfl, rfl, h0, r0⟩ := trodAll_cons hA
  obtain ⟨rfl, rfl, rfl⟩ := trodAll_nil r0
  obtain rfl : args = #[v0] := by cases args; simp_all
  obtain ⟨rfl, rfl⟩ := trodVars_none hV
  have lt0 : ∀ x ∈ p0, x.block < W.heap.size := by obtain ⟨m, hm⟩ := h0; exact DataW.trod_lt m _ _ _ hm
  obtain ⟨a0, n0, c0, rfl⟩ := okWide_slice Try.underlying22 (hval 0 22 v0 rfl rfl)
  have w0 : Bytes W a0 n0 c0 := bytes_open h0
  clear hA0 hval0
  refine (walk a0 n0 c0 W w0).mono fun e W' ⟨he, bel⟩ => ?_
  subst he
  exact ⟨_, rfl, _, _, _, [], _, [], hW', trodAll_mk1 (shut_bool Try.underlying4 _), (trodAll_cons_mk (Below.trod laidOut (by kernel_rfl) (of_decide_eq_true (by kernel_rfl)) h0 bel lt0) trodAll_mk0), rfl, bel.frame _, fun h => by cases h⟩
theorem over : Rows.fnTakeSplitRow.holds Try.pinned (OpenSpec.ofChange Rows.fnTakeSplitSpec) :=
  OpenClaim.holds_of_wide 6 Try.f6 rfl rfl rfl rfl rfl rfl rfl ⟨rfl, rfl, rfl, rfl, rfl⟩ rfl rfl rfl rfl rfl (by kernel_rfl) Try.func6 (by unfold joinedFacts; rw [mayEnter, liftsFinal, makeIs]; kernel_rfl)
    (of_decide_eq_true (by kernel_rfl)) (by unfold Func.isWrapper; first | (rw [if_pos (by decide +kernel)]; kernel_rfl) | (rw [if_neg (by decide +kernel)]; exact ⟨rfl, rfl⟩))
    (fun os started H enc _ => lifted os started H enc)
/-- the given statement -/
theorem proved : Rows.FnTakeSplitSaid := over
end Go.Proofs.Ytkmoiphcpmhacaa.fnTakeSplit
