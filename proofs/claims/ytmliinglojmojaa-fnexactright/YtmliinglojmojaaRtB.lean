/-
  RIGHT WORLDS: impl.Right.
-/
import Derived.Test.YtmliinglojmojaaValX
import Derived.Test.YtmliinglojmojaaValY
import Derived.Test.YtmliinglojmojaaRtK
namespace Go.Proofs.Ytmliinglojmojaa.mk
open Go.RowKit Go.Maps Go.WideMaps
set_option linter.unusedVariables false

theorem owns_map_keep {w w' : World} {P : Program} {k : TypeId} {R : Value → Option (DataW Unit × List MemPlace)} {b n : Nat} {D : DataW Unit} (h : w.ownsMap P k R b n D) (hb : w'.heap[b]? = w.heap[b]?) : w'.ownsMap P k R b n D := by
  obtain ⟨es, clock, h1, h2⟩ := h
  exact ⟨es, clock, hb.trans h1, h2⟩
theorem owns_map_lt {w : World} {P : Program} {k : TypeId} {R : Value → Option (DataW Unit × List MemPlace)} {b n : Nat} {D : DataW Unit} (h : w.ownsMap P k R b n D) : b < w.heap.size := by
  obtain ⟨es, clock, h1, h2⟩ := h
  exact (Array.getElem?_eq_some_iff.1 h1).1
theorem loop_eq (bs : ByteArray) : ∀ (n i : Nat) (r : List UInt8), bs.size - i = n → ByteArray.toList.loop bs i r = r.reverse ++ bs.data.toList.drop i := by
  intro n
  have hs : bs.size = bs.data.toList.length := (Array.length_toList).symm
  induction n with
  | zero => intro i r h; rw [ByteArray.toList.loop, if_neg (by omega), List.drop_eq_nil_of_le (by omega)]; simp
  | succ n ih =>
    intro i r h
    rw [ByteArray.toList.loop, if_pos (by omega), ih (i + 1) _ (by omega), List.drop_eq_getElem_cons (l := bs.data.toList) (i := i) (by omega)]
    simp [ByteArray.get!]
    rw [getElem!_pos _ _ (by rw [← Array.length_toList]; omega)]
theorem toList_inj {a b : ByteArray} (h : a.toList = b.toList) : a = b := by
  have ha : a.toList = a.data.toList := by have := loop_eq a _ 0 [] rfl; simpa [ByteArray.toList] using this
  have hb : b.toList = b.data.toList := by have := loop_eq b _ 0 [] rfl; simpa [ByteArray.toList] using this
  rw [ha, hb] at h
  cases a; cases b
  simpa using h
/-- what the map holds behind k rounds -/
def Inv (gv tk : List Rc) (D : DataW Unit) (k : Nat) : Prop := ∀ (y : Rc) (kl : Lit), RcOk y → keyOf Try.prog 101 (.agg #[.int .i64 y.frm, .int .i64 y.a, .int .i64 y.b]) = some kl → ∃ b : Nat, b ≤ gv.length ∧ D.atKey kl (.lit (.int .i64 0)) = .lit (.int .i64 (b : Int)) ∧ cntT y gv b = cntT y tk k
theorem Inv.step {gv tk : List Rc} {D : DataW Unit} {k b N : Nat} {x : Rc} {kl : Lit} (hI : Inv gv tk D k) (hk : k < tk.length) (hx : tk[k] = x) (hkey : keyOf Try.prog 101 (.agg #[.int .i64 x.frm, .int .i64 x.a, .int .i64 x.b]) = some kl) (hb : b ≤ gv.length) (hcn : cntT x gv b = cntT x tk k) (hN : nxt gv x b = N) (hl : N < gv.length) (hM : IsMap D) : Inv gv tk (D.put kl (.lit (.int .i64 ((N : Int) + 1)))) (k + 1) := by
  intro y kl' hy hkey'
  have hc := cntT_succ y tk k hk
  rw [hx] at hc
  by_cases e : kl' = kl
  · subst e
    have hs := key_inj hkey' hkey
    have hst : sameT y x = true := sameT_iff.2 hs
    refine ⟨N + 1, by omega, ?_, ?_⟩
    · rw [atKey_put_same hM (lawTalk.key hkey)]
      rfl
    · rw [hc, hst, cntT_same hst, cntT_same hst, ← hN, nxt_cnt hb hcn (by rw [hN]; exact hl)]
      rfl
  · obtain ⟨c, h1, h2, h3⟩ := hI y kl' hy hkey'
    have hst : sameT y x = false := Bool.eq_false_iff.2 (fun h => e (by
      obtain ⟨q1, q2, q3⟩ := sameT_iff.1 h
      rw [q1, q2, q3, hkey] at hkey'
      exact (Option.some.inj hkey').symm))
    refine ⟨c, h1, ?_, ?_⟩
    · rw [atKey_put_other e]
      exact h2
    · rw [hc, hst, h3]
      rfl
set_option maxRecDepth 100000 in
set_option maxHeartbeats 8000000 in
theorem implRight_yes (key : ByteArray) (width : Int) (eo : Option Addr) (ce : Nat) (es : List Ev) (fo : Option Addr) (cf : Nat) (fl : List Pc) (fg : ByteArray) (go : Option Addr) (cg : Nat) (gv : List Rc) (ko : Option Addr) (ck : Nat) (tk : List Rc) (w : World) (hm : Sw 1048576 key es fl fg gv tk) (hr : Rwo w eo es fo fl go gv ko tk) (hV : woOk key width es fl gv tk = true) (hgk : gv.length + tk.length ≤ 400) (hG : rcsOk gv = true) (hT : rcsOk tk = true) :
    Calls Try.prog 30 #[.agg #[.string key, .int .i64 width, .slice eo es.length ce, .slice fo fl.length cf, .string fg, .slice go gv.length cg, .slice ko tk.length ck]] w fun e w' => e = .returned (.bool (rightOk gv tk)) ∧ Below w.heap.size w w' := by
  have hmm := @run_makeMap Try.prog
  have HV : Hid (∀ u : World, Rwo u eo es fo fl go gv ko tk → Calls Try.prog 28 #[.agg #[.string key, .int .i64 width, .slice eo es.length ce, .slice fo fl.length cf, .string fg, .slice go gv.length cg, .slice ko tk.length ck]] u fun e u' => e = .returned (.bool true) ∧ Below u.heap.size u u') := fun u h => by have := implValidWorld_any key width eo ce es fo cf fl fg go cg gv ko ck tk u hm h; rw [hV] at this; exact this
  have B0 : Hid (Below w.heap.size w (w.alloc (.cells #[.string key, .int .i64 width, .slice eo es.length ce, .slice fo fl.length cf, .string fg, .slice go gv.length cg, .slice ko tk.length ck] 26))) := (Below.refl _ _).alloc (Nat.le_refl _) _
  have X0 : Hid (Bx (w.alloc (.cells #[.string key, .int .i64 width, .slice eo es.length ce, .slice fo fl.length cf, .string fg, .slice go gv.length cg, .slice ko tk.length ck] 26)) w.heap.size 26 #[.string key, .int .i64 width, .slice eo es.length ce, .slice fo fl.length cf, .string fg, .slice go gv.length cg, .slice ko tk.length ck]) := Bx.new w _ _
  have R0 : Hid (Rwo (w.alloc (.cells #[.string key, .int .i64 width, .slice eo es.length ce, .slice fo fl.length cf, .string fg, .slice go gv.length cg, .slice ko tk.length ck] 26)) eo es fo fl go gv ko tk) := hr.keep B0.out
  have HR : Hid (Rwo w eo es fo fl go gv ko tk) := hr
  have HM : Hid (Sw 1048576 key es fl fg gv tk) := hm
  have HOT : Hid (∀ i (h : i < tk.length), RcOk tk[i]) := rcsOk_of hT
  clear hr hm hV hG hT
  go_enter Try.func30, Try.ntmps30
  go_wp2_with (first
    | (go_at_call 28; refine (HV.out _ R0.out).mono ?_; rintro x w1 ⟨rfl, hb1⟩; (have X1 := X0.out.keep hb1); (have lX1 := X1.lt); (have x0 := X1.cell 0); (have x1 := X1.cell 1); (have x2 := X1.cell 2); (have x3 := X1.cell 3); (have x4 := X1.cell 4); (have x5 := X1.cell 5); (have x6 := X1.cell 6); simp at x0 x1 x2 x3 x4 x5 x6)
    | fail)
  have B1 := kb B0.out hb1 (Nat.le_refl _)
  have lB : w.heap.size < w1.heap.size := lX1
  have HXM : Hid (Bx (w1.alloc (.map #[] 0)) w.heap.size 26 #[.string key, .int .i64 width, .slice eo es.length ce, .slice fo fl.length cf, .string fg, .slice go gv.length cg, .slice ko tk.length ck]) := X1.alloc _
  have HBM : Hid (Below w.heap.size w (w1.alloc (.map #[] 0))) := B1.alloc B1.size _
  have HIM : Hid ((w1.alloc (.map #[] 0)).ownsMap Try.prog 101 (plainElem (H := Unit) Try.prog 3) w1.heap.size 0 (.map [])) := World.ownsMap_made w1 _ _ _
  clear X1 hb1 B1 lX1 x0 x1 x2 x3 x4 x5 x6
  go_loopw [15] (fun i wr => ∃ (k : Nat) (D : DataW Unit), k ≤ tk.length ∧ i = .int .i64 k ∧ (wr.ownsMap Try.prog 101 (plainElem (H := Unit) Try.prog 3) w1.heap.size k D) ∧ Inv gv tk D k ∧ (∀ j (h : j < tk.length), j < k → There gv tk[j] (cntT tk[j] tk j)) ∧ Bx wr w.heap.size 26 #[.string key, .int .i64 width, .slice eo es.length ce, .slice fo fl.length cf, .string fg, .slice go gv.length cg, .slice ko tk.length ck] ∧ Below w.heap.size w wr) (fun i _ => tk.length - (intOf i).toNat)
  case atStart =>
    refine ⟨0, .map [], Nat.zero_le _, rfl, HIM.out, ?_, fun j _ h => absurd h (by omega), HXM.out, HBM.out⟩
    intro y kl _ _
    exact ⟨0, Nat.zero_le _, rfl, by rw [cntT_zero, cntT_zero]⟩
  case round =>
    clear HXM HBM HIM
    obtain ⟨k, D, hk, rfl, hown, hI, hall, X1, hbel⟩ := hrel
    have lX1 := X1.lt
    have lM := owns_map_lt hown
    have x0 := X1.cell 0; have x1 := X1.cell 1; have x2 := X1.cell 2; have x3 := X1.cell 3; have x4 := X1.cell 4; have x5 := X1.cell 5; have x6 := X1.cell 6
    simp at x0 x1 x2 x3 x4 x5 x6
    have HL : Hid (∀ j (h : j < tk.length), j < k → There gv tk[j] (cntT tk[j] tk j)) := hall
    have HI : Hid (Inv gv tk D k) := hI
    have HOW : Hid (wr.ownsMap Try.prog 101 (plainElem (H := Unit) Try.prog 3) w1.heap.size k D) := hown
    clear hall hI hown
    by_cases hlt : k < tk.length
    · rcases HR.out.taken.ex with h | ⟨g, rfl, hg, hgc⟩
      · omega
      obtain ⟨c0, c1, c2, c3⟩ := Rs.rcs (n := 0) hg hgc hbel k hlt
      have hok := HOT.out k hlt
      have hsz := HM.out.taken k hlt
      clear hgc
      revert c0 c1 c2 c3 hok hsz
      generalize hx : tk[k] = x
      have HX : Hid (tk[k] = x) := hx
      clear hx
      obtain ⟨xf, xa, xb, xt⟩ := x
      dsimp only
      intro c0 c1 c2 c3 hok hsz
      obtain ⟨kl, hkey⟩ := keyOk xf xa xb (by have := hok.1; dsimp only at this; omega) hok.2.1 hok.2.2.1
      obtain ⟨b, hb, hat, hcn⟩ := HI.out ⟨xf, xa, xb, xt⟩ kl hok hkey
      have HTk : Hid (∀ u : World, Calls Try.prog 78 #[.agg #[.int .i64 xf, .int .i64 xa, .int .i64 xb, .string xt]] u fun e w' => e = .returned (.agg #[.int .i64 xf, .int .i64 xa, .int .i64 xb]) ∧ Below u.heap.size u w') := fun u => talk_any xf xa xb xt u
      have hts : xt.size ≤ 1048576 := hsz
      clear hsz
      go_wp2_with (first
        | (go_at_call 78; refine (HTk.out _).mono ?_; rintro e w2 ⟨rfl, hb2⟩)
        | fail)
      have BX2 : Below wr.heap.size wr w2 := kb ((Below.refl _ _).alloc (Nat.le_refl _) _) hb2 (Nat.le_refl _)
      have XB := (Bx.new wr 98 #[.int .i64 xf, .int .i64 xa, .int .i64 xb, .string xt]).keep hb2
      have Xw := X1.keep BX2
      have B2 := hbel.trans (BX2.mono hbel.size)
      have OM2 := owns_map_keep HOW.out (BX2.block _ lM)
      obtain ⟨W3, hW3⟩ : ∃ W3, w2.alloc (.cells #[.int .i64 xf, .int .i64 xa, .int .i64 xb] 101) = W3 := ⟨_, rfl⟩
      have AW : Below w2.heap.size w2 W3 := by rw [← hW3]; exact (Below.refl _ _).alloc (Nat.le_refl _) _
      have q0 : W3.cell? ⟨w2.heap.size, 0, none⟩ = some (.int .i64 xf) := by rw [← hW3]; simp [go_sem]
      have q1 : W3.cell? ⟨w2.heap.size, 1, none⟩ = some (.int .i64 xa) := by rw [← hW3]; simp [go_sem]
      have q2 : W3.cell? ⟨w2.heap.size, 2, none⟩ = some (.int .i64 xb) := by rw [← hW3]; simp [go_sem]
      have Xw3 := Xw.keep AW
      have XB3 := XB.keep AW
      have B3 := kb B2 AW (Nat.le_refl _)
      have OM3 := owns_map_keep OM2 (AW.block _ (owns_map_lt OM2))
      have T5 : W3.cell? ⟨w.heap.size, 5, none⟩ = some (.slice go gv.length cg) := Xw3.cell 5
      rw [hW3]
      obtain ⟨N, hN⟩ : ∃ N, nxt gv ⟨xf, xa, xb, xt⟩ b = N := ⟨_, rfl⟩
      have HNX : Hid (∀ u : World, Rs u go gv.length (rcs gv) → Calls Try.prog 79 #[.slice go gv.length cg, .agg #[.int .i64 xf, .int .i64 xa, .int .i64 xb], .int .i64 (b : Int)] u fun e u' => e = .returned (.int .i64 (N : Int)) ∧ Below u.heap.size u u') := fun u h => by have := nextOf_any go cg gv ⟨xf, xa, xb, xt⟩ b u (by omega) hb h; rw [hN] at this; exact this
      have RG : Hid (Rs W3 go gv.length (rcs gv)) := HR.out.given.keep B3
      have LK : Hid (∀ u : World, Below W3.heap.size W3 u → (Instr.lookup 99 (.map (some w1.heap.size)) (.agg #[.int .i64 xf, .int .i64 xa, .int .i64 xb]) false).run Try.prog u = .ok (.int .i64 (b : Int)) u) := fun u hu => by
        obtain ⟨c, hrun, hat', _⟩ := (owns_map_keep OM3 (hu.block _ (owns_map_lt OM3))).lookup_int lawTalk Try.underlying99 Try.underlying3 (zeroI _) hkey
        rw [hat] at hat'
        have e : c = (b : Int) := by simpa using hat'.symm
        rw [e] at hrun
        exact hrun
      have hNs := nxt_spec gv ⟨xf, xa, xb, xt⟩ _ b rfl hb
      rw [hN] at hNs
      have hNl : N ≤ gv.length := hNs.2.1
      have HTI : Hid (There gv ⟨xf, xa, xb, xt⟩ (cntT ⟨xf, xa, xb, xt⟩ tk k) ↔ ∃ h : N < gv.length, gv[N].text = xt) := (by have := there_iff (x := ⟨xf, xa, xb, xt⟩) hb hcn; subst hN; exact this : There gv ⟨xf, xa, xb, xt⟩ (cntT ⟨xf, xa, xb, xt⟩ tk k) ↔ ∃ h : N < gv.length, gv[N].text = xt)
      have HNn : Hid (nxt gv ⟨xf, xa, xb, xt⟩ b = N) := hN
      have sW3 := B3.size
      have lXB := XB3.lt
      clear hW3 AW hb2 X1 Xw XB B2 OM2 BX2 hN hNs x0 x1 x2 x3 x4 x5 x6 c0 c1 c2 c3 HTk
      refine wp_region_held_drew (S := (fun w' => Below W3.heap.size W3 w')) (by kernel_rfl) ?_ (fun hHeld => ?_)
      · exact (Below.refl _ _).drew
      refine tkF 0 (some 21) ?_
      refine tkE 1 (some 22) ?_ ?_ ?_
      rotate_left
      · (intro w hSw; (have hT5 := cell_keep T5 hSw); (have hq0 := cell_keep q0 hSw); (have hq1 := cell_keep q1 hSw); (have hq2 := cell_keep q2 hSw); go_simp <;> with_reducible rfl)
      refine tkE 2 (some 23) ?_ ?_ ?_
      rotate_left
      · (intro w hSw; (have hT5 := cell_keep T5 hSw); (have hq0 := cell_keep q0 hSw); (have hq1 := cell_keep q1 hSw); (have hq2 := cell_keep q2 hSw); go_simp <;> with_reducible rfl)
      refine tkF 3 (some 24) ?_
      refine tkE 4 (some 25) ?_ ?_ ?_
      rotate_left
      · (intro w hSw; (have hT5 := cell_keep T5 hSw); (have hq0 := cell_keep q0 hSw); (have hq1 := cell_keep q1 hSw); (have hq2 := cell_keep q2 hSw); go_simp <;> with_reducible rfl)
      refine takeD (i := 5) (d := some 26) (v := .int .i64 (b : Int)) rfl rfl (by kernel_rfl) (by kernel_rfl) (by kernel_rfl) (fun _ _ _ h => h) (Or.inl ⟨by rfl, (by intro w hSw; (have hrun := LK.out w hSw); go_simp <;> first | rfl | simp [hrun] | fail)⟩) (by assumption) ?_
      simp only [Act.put, List.setIfInBounds_toArray, List.set_cons_zero, List.set_cons_succ]
      refine wpAnyH_ready (rs := [6]) (by kernel_rfl) (by simp) ?_
      refine AllReadyH.cons rfl (fun K hK => ?_) AllReadyH.nil
      go_simp
      refine (HNX.out _ (RG.out.keep (by assumption))).mono ?_
      rintro e w4 ⟨rfl, hb4⟩
      go_wp2_with fail
      refine hK.out _ _ ?_ (fun hHeld => ?_)
      · exact kb (by assumption) hb4 (Nat.le_refl _)
      clear hK K
      try simp only [Act.put, List.setIfInBounds_toArray, List.set_cons_zero, List.set_cons_succ]
      refine tkF 7 (some 7) ?_
      refine wpAnyH_done (by kernel_rfl) ?_ _
      have hB4 : Below W3.heap.size W3 w4 := by assumption
      have V5 := cell_keep T5 hB4
      have XB4 := XB3.keep hB4
      have Xw4 := Xw3.keep hB4
      have OM4 := owns_map_keep OM3 (hB4.block _ (owns_map_lt OM3))
      have B4 := kb B3 hB4 (Nat.le_refl _)
      have r3 : w4.cell? ⟨wr.heap.size, 3, none⟩ = some (.string xt) := XB4.cell 3
      have s0 := cell_keep q0 hB4
      have s1 := cell_keep q1 hB4
      have s2 := cell_keep q2 hB4
      clear T5 q0 q1 q2 RG LK HNX
      go_wp2
      by_cases hNe : N < gv.length
      case neg =>
        have hNq : N = gv.length := by omega
        have HF : Hid (rightOk gv tk = false) := rightOk_no hlt (by rw [HX.out]; exact fun h => hNe (HTI.out.1 h).1)
        refine wp_region_held_drew (S := (fun w' => Below w4.heap.size w4 w')) (by kernel_rfl) ?_ (fun hHeld => ?_)
        · exact (Below.refl _ _).drew
        refine tkF 0 (some 28) ?_
        refine tkF 1 (some 29) ?_
        refine tkE 2 (some 30) ?_ ?_ ?_
        rotate_left
        · (intro w hSw; (have hV5 := cell_keep V5 hSw); (have hr3 := cell_keep r3 hSw); go_simp <;> with_reducible rfl)
        refine tkF 3 (some 31) ?_
        refine takeD (i := 4) (d := some 32) (v := .bool true) rfl rfl (by kernel_rfl) (by kernel_rfl) (by kernel_rfl) (fun _ _ _ h => h) (Or.inl ⟨by rfl, (by intro w hSw; first | (go_simp; done) | (go_simp; first | rfl | omega | simp))⟩) (by assumption) ?_
        simp only [Act.put, List.setIfInBounds_toArray, List.set_cons_zero, List.set_cons_succ]
        refine tkF 5 (some 33) ?_
        refine tkS 6 (some 34) ?_
        refine tkS 7 (some 35) ?_
        refine tkS 8 (some 36) ?_
        refine tkS 9 (some 37) ?_
        refine tkS 10 (some 38) ?_
        refine tkS 11 (some 39) ?_
        refine tkS 12 (some 40) ?_
        refine tkS 13 (some 41) ?_
        refine tkS 14 (some 42) ?_
        refine tkF 15 (some 43) ?_
        refine wpAnyH_done (by kernel_rfl) ?_ _
        go_wp2
        go_ret
        exact ⟨ret_b (by rw [HF.out]), kb B4 (by assumption) (Nat.le_refl _)⟩
      rcases HR.out.given.ex with h | ⟨gg, rfl, hgg, hggc⟩
      · omega
      have gt := (Rs.rcs (n := 0) hgg hggc B4 N hNe).2.2.2
      clear hggc
      obtain ⟨gx, hgx⟩ : ∃ gx, gv[N].text = gx := ⟨_, rfl⟩
      have HGX : Hid (gv[N].text = gx) := hgx
      rw [hgx] at gt
      clear hgx
      have htl : ¬ gx = xt → ¬ gx.toList = xt.toList := fun h q => h (toList_inj q)
      have hNi : ¬ (N : Int) = (gv.length : Int) := by omega
      by_cases hte : gx = xt
      case neg =>
        have hte2 := htl hte
        have HF : Hid (rightOk gv tk = false) := rightOk_no hlt (by rw [HX.out]; exact fun h => hte (by obtain ⟨_, q⟩ := HTI.out.1 h; rw [← HGX.out]; exact q))
        refine wp_region_held_drew (S := (fun w' => Below w4.heap.size w4 w')) (by kernel_rfl) ?_ (fun hHeld => ?_)
        · exact (Below.refl _ _).drew
        refine tkF 0 (some 28) ?_
        refine tkF 1 (some 29) ?_
        refine tkE 2 (some 30) ?_ ?_ ?_
        rotate_left
        · (intro w hSw; (have hV5 := cell_keep V5 hSw); (have hr3 := cell_keep r3 hSw); (have hgt := cell_keep gt hSw); go_simp <;> with_reducible rfl)
        refine tkF 3 (some 31) ?_
        refine takeD (i := 4) (d := some 32) (v := .bool false) rfl rfl (by kernel_rfl) (by kernel_rfl) (by kernel_rfl) (fun _ _ _ h => h) (Or.inl ⟨by rfl, (by intro w hSw; first | (go_simp; done) | (go_simp; first | rfl | omega | simp))⟩) (by assumption) ?_
        simp only [Act.put, List.setIfInBounds_toArray, List.set_cons_zero, List.set_cons_succ]
        refine tkF 5 (some 33) ?_
        refine tkF 6 (some 34) ?_
        refine tkE 7 (some 35) ?_ ?_ ?_
        rotate_left
        · (intro w hSw; (have hV5 := cell_keep V5 hSw); (have hr3 := cell_keep r3 hSw); (have hgt := cell_keep gt hSw); go_simp <;> with_reducible rfl)
        refine tkF 8 (some 36) ?_
        refine tkF 9 (some 37) ?_
        refine tkF 10 (some 38) ?_
        refine tkE 11 (some 39) ?_ ?_ ?_
        rotate_left
        · (intro w hSw; (have hV5 := cell_keep V5 hSw); (have hr3 := cell_keep r3 hSw); (have hgt := cell_keep gt hSw); go_simp <;> with_reducible rfl)
        refine tkF 12 (some 40) ?_
        refine tkE 13 (some 41) ?_ ?_ ?_
        rotate_left
        · (intro w hSw; (have hV5 := cell_keep V5 hSw); (have hr3 := cell_keep r3 hSw); (have hgt := cell_keep gt hSw); go_simp <;> with_reducible rfl)
        refine takeD (i := 14) (d := some 42) (v := .bool true) rfl rfl (by kernel_rfl) (by kernel_rfl) (by kernel_rfl) (fun _ _ _ h => h) (Or.inl ⟨by rfl, (by intro w hSw; first | (go_simp; done) | (go_simp; first | rfl | assumption | simp [hte] | (simp; exact hte)))⟩) (by assumption) ?_
        simp only [Act.put, List.setIfInBounds_toArray, List.set_cons_zero, List.set_cons_succ]
        refine tkF 15 (some 43) ?_
        refine wpAnyH_done (by kernel_rfl) ?_ _
        go_wp2
        go_ret
        exact ⟨ret_b (by rw [HF.out]), kb B4 (by assumption) (Nat.le_refl _)⟩
      subst hte
      clear htl
      have HTH : Hid (There gv ⟨xf, xa, xb, gx⟩ (cntT ⟨xf, xa, xb, gx⟩ tk k)) := HTI.out.2 ⟨hNe, HGX.out⟩
      refine wp_region_held_drew (S := (fun w' => Below w4.heap.size w4 w')) (by kernel_rfl) ?_ (fun hHeld => ?_)
      · exact (Below.refl _ _).drew
      refine tkF 0 (some 28) ?_
      refine tkF 1 (some 29) ?_
      refine tkE 2 (some 30) ?_ ?_ ?_
      rotate_left
      · (intro w hSw; (have hV5 := cell_keep V5 hSw); (have hr3 := cell_keep r3 hSw); (have hgt := cell_keep gt hSw); go_simp <;> with_reducible rfl)
      refine tkF 3 (some 31) ?_
      refine takeD (i := 4) (d := some 32) (v := .bool false) rfl rfl (by kernel_rfl) (by kernel_rfl) (by kernel_rfl) (fun _ _ _ h => h) (Or.inl ⟨by rfl, (by intro w hSw; first | (go_simp; done) | (go_simp; first | rfl | omega | simp))⟩) (by assumption) ?_
      simp only [Act.put, List.setIfInBounds_toArray, List.set_cons_zero, List.set_cons_succ]
      refine tkF 5 (some 33) ?_
      refine tkF 6 (some 34) ?_
      refine tkE 7 (some 35) ?_ ?_ ?_
      rotate_left
      · (intro w hSw; (have hV5 := cell_keep V5 hSw); (have hr3 := cell_keep r3 hSw); (have hgt := cell_keep gt hSw); go_simp <;> with_reducible rfl)
      refine tkF 8 (some 36) ?_
      refine tkF 9 (some 37) ?_
      refine tkF 10 (some 38) ?_
      refine tkE 11 (some 39) ?_ ?_ ?_
      rotate_left
      · (intro w hSw; (have hV5 := cell_keep V5 hSw); (have hr3 := cell_keep r3 hSw); (have hgt := cell_keep gt hSw); go_simp <;> with_reducible rfl)
      refine tkF 12 (some 40) ?_
      refine tkE 13 (some 41) ?_ ?_ ?_
      rotate_left
      · (intro w hSw; (have hV5 := cell_keep V5 hSw); (have hr3 := cell_keep r3 hSw); (have hgt := cell_keep gt hSw); go_simp <;> with_reducible rfl)
      refine takeD (i := 14) (d := some 42) (v := .bool false) rfl rfl (by kernel_rfl) (by kernel_rfl) (by kernel_rfl) (fun _ _ _ h => h) (Or.inl ⟨by rfl, (by intro w hSw; first | (go_simp; done) | (go_simp; first | rfl | assumption | simp [hte] | (simp; exact hte)))⟩) (by assumption) ?_
      simp only [Act.put, List.setIfInBounds_toArray, List.set_cons_zero, List.set_cons_succ]
      refine tkF 15 (some 43) ?_
      refine wpAnyH_done (by kernel_rfl) ?_ _
      have hB5 := hHeld
      go_wp2_with (first
        | (at_mapUpdate; refine wpList_mapUpdate_own _ rfl _ _ _ 99 rfl 101 3 lawTalk Try.underlying99 _ w1.heap.size k _ rfl (owns_map_keep OM4 rfl) (by unfold maxLen; omega) _ _ _ rfl rfl hkey _ [] (plainElem_int Try.underlying3 (WalkArith.wf_i64 (by omega))) ?_; intro w6 hown6 hg6)
        | fail)
      go_roundw
      case rel =>
        refine ⟨k + 1, _, by omega, by go_num, hown6, HI.out.step hlt HX.out hkey hb hcn HNn.out hNe OM4.isMap, ?_, ?_, ?_⟩
        · intro j hj hj2
          rcases Nat.lt_or_ge j k with h1 | h1
          · exact HL.out j hj h1
          · obtain rfl : j = k := by omega
            rw [HX.out]
            exact HTH.out
        · exact ((Xw4.keep hB5).kept hg6 (by simp; omega))
        · exact (kb B4 hB5 (Nat.le_refl _)).grown hg6 (kb B4 hB5 (Nat.le_refl _)).size (fun r e => by cases e; omega)
      case measure => simp [intOf]; omega
    · have hkl : k = tk.length := by omega
      have HF : Hid (rightOk gv tk = true) := rightOk_yes (fun j hj => HL.out j hj (by omega))
      go_wp2
      go_ret
      exact ⟨ret_b (by rw [HF.out]), hbel⟩
end Go.Proofs.Ytmliinglojmojaa.mk
