/- Proved: for every input the law InjectBack returns true, does not panic, and leaves its arguments as they were: what inject.Into put in is what inject.From says, all other headers stand as they stood, there is just one header of each of the two names, and its value may be a header's value; where Into has an error no list is answered (P23.3). Conditions: those of the given row and no others (linux/amd64; each string and each slice within the form's reach; the call may recurse and call function values); nothing is assumed of the arguments beyond their types; the package-level variables start as the program's text lays them, and of packages that the seat's roots do not load nothing is said; of a list of more than 60 headers, and of a header of more than 400 bytes, the law says nothing. -/
import Derived.Test.YtnbkpannhcamjaaDoorG30
import Derived.Test.YtnbkpannhcamjaaDoorTie
import Derived.Test.YtnbkpannhcamjaaDoorCards
import Derived.SevenTiedAt
namespace Go.Proofs.YtnbkpannhcamjaaDoor.injectBackLaw
open Go.ChangeShapes Go.WideShapes Go.ChangeAt Go.RowKit Go.Joins
open Go.ChangeMaps (open_string shut_string)
set_option linter.unusedVariables false

set_option maxRecDepth 100000 in
theorem lifted (os : Os) (started : os.Started) (H : Type) (enc : TypeId × Value → H) :
    ReturnsInHanded {} Tryd.checked os 3 .any (fun w args => (Rows.injectBackSpec.pre enc Tryd.prog Tryd.f3 Rows.injectBackRow.domain false w args ∧ laidMet Tryd.prog laid23 w) ∧ sizedMet enc Tryd.prog Tryd.f3 (OpenSpec.ofChange Rows.injectBackSpec) false w args) (Rows.injectBackSpec.post enc Tryd.prog Tryd.f3 false true false false) := by
  refine returns_door (C := Tryd.checked) (X := fun w _ => laidMet Tryd.prog laid23 w) (fun _ _ _ hh h => h.of_heap hh) ownD started (by kernel_rfl) Tryd.func3
    (ChangeSpec.witness_at (enc := enc) (C := Tryd.checked) (os := os) (X := fun w _ => laidMet Tryd.prog laid23 w) false (World.laidAll Tryd.prog os laid23) #[.slice none 0 0, .agg #[.int .u64 0, .int .u64 0, .int .u64 0, .int .i64 0]] 8 (World.laidAll_os _ _ _) (by kernel_rfl) (by kernel_rfl) (by kernel_rfl) (by kernel_rfl) (by kernel_rfl) (laid23_met os _)) ?_
  intro W base args ds gs before hval0 hW hcnd hsz hL hshape _
  have hE := (And.intro (pce23 hL) (envT_of23 hshape))
  have hval : ∀ (j : Nat) t v, Tryd.f3.params[j]? = some t → args[j]? = some v → Value.okWide Tryd.prog W .any base t v := hval0
  have hW' := hW
  have hlt : ∀ p ∈ before, p.block < W.heap.size := fun p hp => hW.lt p hp
  obtain ⟨p, q, hA0, hV, rfl, hfz, hnd⟩ := hW
  have hA : DataW.TrodAll enc Tryd.prog W 0 (fun _ => true) true Tryd.f3.params.toList args.toList ds p := hA0
  rw [Tryd.params3] at hA hval
  obtain ⟨v0, vs0, d0, ds0, p0, q0, hargs, rfl, rfl, h0, r0⟩ := trodAll_cons hA
  obtain ⟨v1, vs1, d1, ds1, p1, q1, rfl, rfl, rfl, h1, r1⟩ := trodAll_cons r0
  obtain ⟨rfl, rfl, rfl⟩ := trodAll_nil r1
  obtain rfl : args = #[v0, v1] := by cases args; simp_all
  obtain ⟨rfl, rfl⟩ := trodVars_none hV
  have k0 := h0
  have l0 : ∀ x ∈ p0, x.block < W.heap.size := fun x hx => hlt x (by simp [hx])
  have k1 := h1
  have l1 : ∀ x ∈ p1, x.block < W.heap.size := fun x hx => hlt x (by simp [hx])
  obtain ⟨A0, n0, c0, rfl⟩ := okWide_slice Tryd.underlying22 (hval 0 22 v0 rfl rfl)
  obtain ⟨L0, o0⟩ := open_HX Tryd.underlying22 Tryd.underlying45 Tryd.underlying9 (by kernel_rfl) (by kernel_rfl) ⟨rfl, rfl, rfl, rfl⟩ (sized_of hsz (j := 0) (t := 22) (by rw [Tryd.params3]; rfl) rfl) h0
  obtain ⟨a1, b1, s1, f1, rfl, wa1, wb1, ws1, wf1, wg1⟩ := open_PR Tryd.underlying27 Tryd.underlying25 Tryd.underlying23 Tryd.underlying3 (by kernel_rfl) (by kernel_rfl) (by kernel_rfl) (by kernel_rfl) ⟨rfl, rfl, rfl, rfl, rfl, rfl⟩ ⟨rfl, rfl, rfl, rfl⟩ (hval 1 27 v1 rfl rfl) h1
  clear hA0 hval0
  have hwk := injectBack_walk _ L0 a1 b1 s1 f1 (hid wa1) (hid wb1) (hid ws1) (hid ⟨wf1, wg1⟩) W hE o0
  refine hwk.mono fun e W' ⟨he, bel⟩ => ?_
  subst he
  exact ⟨_, rfl, _, _, _, [], _, [], hW', trodAll_mk1 (shut_bool Tryd.underlying4 _), (trodAll_cons_mk (Below.trod layD (by kernel_rfl) (of_decide_eq_true (by kernel_rfl)) k0 bel l0) (trodAll_cons_mk (Below.trod layD (by kernel_rfl) (of_decide_eq_true (by kernel_rfl)) k1 bel l1) trodAll_mk0)), rfl, bel.frame _, fun h => by cases h⟩

theorem over : Rows.injectBackRow.holds Tryd.pinned (OpenSpec.ofChange Rows.injectBackSpec) :=
  OpenClaim.holds_of_wide 3 Tryd.f3 rfl rfl rfl rfl rfl rfl rfl ⟨rfl, rfl, rfl, rfl, rfl⟩ rfl rfl rfl rfl rfl (by kernel_rfl) Tryd.func3 (by kernel_rfl)
    (of_decide_eq_true (by kernel_rfl)) (by unfold Func.isWrapper; first | (rw [if_pos (by decide +kernel)]; kernel_rfl) | (rw [if_neg (by decide +kernel)]; exact ⟨rfl, rfl⟩))
    (fun os started H enc _ => lifted os started H enc)

theorem proved : Rows.InjectBackCardSaid :=
  Claim7.holds_tied_plain_at .later [] [.data, .data, .pinned] true Rows.injectBackCard.stood.harness Rows.injectBackCard.stood.looks
    over (fun _ h => by cases h) (by kernel_rfl) (fun _ h => by cases h) injectBack_row_tie rfl ⟨rfl, rfl⟩ (by kernel_rfl) rfl
    (fun f fn hf hfn => by
      obtain rfl : f = 3 := Option.some.inj ((show Tryd.prog.funcNamed "periscope/periscopelaw23.InjectBack" = some 3 by kernel_rfl).symm.trans hf) |>.symm
      obtain rfl : fn = Tryd.f3 := (Option.some.inj (Tryd.func3.symm.trans hfn)).symm
      exact ⟨by kernel_rfl, fun j t ht => by
        rw [Tryd.params3] at ht
        have hm : t ∈ [22, 27] := by have := Array.mem_of_getElem? ht; simpa using this
        have hw := List.all_eq_true.1 (show [22, 27].all (fun t => !Tryd.prog.wantsStandIn t) = true by kernel_rfl) t hm
        exact (show Tryd.prog.wantsStandIn t = false by simpa using hw)⟩)
    (by kernel_rfl)
#print axioms proved
end Go.Proofs.YtnbkpannhcamjaaDoor.injectBackLaw
