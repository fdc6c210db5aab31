/- Texts put together: Lh Li Lj. -/
import Derived.Test.YtingjembjpckcaaGreatDoorG23
import Derived.Test.YtingjembjpckcaaGreatDoorG27
namespace Go.Proofs.YtingjembjpckcaaGreatDoor
set_option linter.unusedVariables false
set_option linter.unusedSimpArgs false
open Go.RowKit Go.Joins

set_option maxHeartbeats 800000 in
theorem rdig_one (d : Nat) (w : World) (hd : d ≤ 9) :
    Calls Tryz.prog 26 #[.int .i64 (d : Int)] w fun e w' => e = .returned (.string (bs [UInt8.ofNat (48 + d)])) ∧ Below w.heap.size w w' := by
  have h1 : (d : Int) > -10 := by omega
  have h2 : ¬ (d : Int) < 0 := by omega
  have h3 : (d : Int) ≥ 0 := by omega
  have h4 : (d : Int) < 10 := by omega
  have h5 : IntKind.i64.wrap (48 + (d : Int)) = 48 + (d : Int) := IntWalk.i64_in _ (by omega)
  have h6 : IntKind.u64.wrap (48 + (d : Int)) = 48 + (d : Int) := IntWalk.u64_in _ (by omega)
  go_enter Tryz.func26, Tryz.ntmps26
  go_wp2_with fail
  refine (byte_any (48 + (d : Int)) _ (by omega)).mono ?_
  rintro e w1 ⟨rfl, hb1⟩
  have h7 : (48 + (d : Int)).toNat % 256 = 48 + d := by omega
  obtain ⟨B, hB⟩ : ∃ B, UInt8.ofNat (48 + d) = B := ⟨_, rfl⟩
  have HBB := hid hB
  rw [h7, hB]
  clear hB
  go_wp2_with fail
  go_ret
  exact ⟨by rw [HBB.out]; rfl, hb1⟩
set_option maxHeartbeats 800000 in
theorem rdig_more (n : Nat) (l : List UInt8) (hn : 10 ≤ n) (hn2 : n ≤ 999999) (hl : l.length ≤ 100) (hrec : ∀ w : World, Calls Tryz.prog 26 #[.int .i64 ((n : Int) / 10)] w fun e w' => e = .returned (.string (bs l)) ∧ Below w.heap.size w w') (w : World) :
    Calls Tryz.prog 26 #[.int .i64 (n : Int)] w fun e w' => e = .returned (.string (bs (l ++ [UInt8.ofNat (48 + n % 10)]))) ∧ Below w.heap.size w w' := by
  have h1 : (n : Int) > -10 := by omega
  have h2 : ¬ (n : Int) < 0 := by omega
  have h3 : (n : Int) ≥ 0 := by omega
  have h4 : ¬ (n : Int) < 10 := by omega
  have HR := hid hrec
  clear hrec
  go_enter Tryz.func26, Tryz.ntmps26
  go_wp2_with fail
  refine (HR.out _).mono ?_
  rintro e w1 ⟨rfl, hb1⟩
  have HB1 := hid hb1
  clear hb1
  have h5 : IntKind.i64.wrap (48 + (n : Int) % 10) = 48 + (n : Int) % 10 := IntWalk.i64_in _ (by omega)
  have h6 : IntKind.u64.wrap (48 + (n : Int) % 10) = 48 + (n : Int) % 10 := IntWalk.u64_in _ (by omega)
  go_wp2_with fail
  refine (byte_any (48 + (n : Int) % 10) _ (by omega)).mono ?_
  rintro e w2 ⟨rfl, hb2⟩
  have h7 : (48 + (n : Int) % 10).toNat % 256 = 48 + n % 10 := by omega
  obtain ⟨B, hB⟩ : ∃ B, UInt8.ofNat (48 + n % 10) = B := ⟨_, rfl⟩
  have HBB := hid hB
  rw [h7, hB]
  clear hB
  go_wp2_with fail
  go_ret
  exact ⟨by rw [HBB.out]; rfl, below_step' HB1.out hb2⟩
theorem decD_len {u : Nat} (h : u ≤ 999999) : (Lib.decDigits u).length ≤ 21 := by
  have := itoa_len (n := (u : Int)) (by unfold inNum; simp; omega)
  rwa [itoa_nat] at this
theorem rdig_nat (n : Nat) (hn : n ≤ 999999) : ∀ w : World, Calls Tryz.prog 26 #[.int .i64 (n : Int)] w fun e w' => e = .returned (.string (bs (Lib.decDigits n))) ∧ Below w.heap.size w w' := by
  induction n using Nat.strongRecOn with
  | _ n ih =>
    intro w
    rw [Lib.decDigits]
    split
    · exact rdig_one n w (by omega)
    · have e1 : ((n : Int) / 10) = ((n / 10 : Nat) : Int) := by omega
      exact rdig_more n _ (by omega) hn (by have := decD_len (u := n / 10) (by omega); omega) (fun w2 => by rw [e1]; exact ih (n / 10) (by omega) (by omega) w2) w
theorem rdig_any (n : Int) (hn : inNum n = true) (w : World) : Calls Tryz.prog 26 #[.int .i64 n] w fun e w' => e = .returned (.string (bs (Lib.itoa n))) ∧ Below w.heap.size w w' := by
  unfold inNum at hn
  simp at hn
  obtain ⟨u, rfl⟩ : ∃ u : Nat, n = (u : Int) := ⟨n.toNat, by omega⟩
  rw [itoa_nat]
  exact rdig_nat u (by omega) w
set_option maxHeartbeats 800000 in
theorem words_any (w : World) : Calls Tryz.prog 39 #[] w fun e w' => e = .returned (.slice (some ⟨w.heap.size, 0, none⟩) 7 7) ∧ (w'.cell? ⟨w.heap.size, 1, none⟩ = some (.string (bs (frmW 2))) ∧ w'.cell? ⟨w.heap.size, 2, none⟩ = some (.string (bs (frmW 3))) ∧ w'.cell? ⟨w.heap.size, 3, none⟩ = some (.string (bs (frmW 4))) ∧ w'.cell? ⟨w.heap.size, 4, none⟩ = some (.string (bs (frmW 5))) ∧ w'.cell? ⟨w.heap.size, 5, none⟩ = some (.string (bs (frmW 6))) ∧ w'.cell? ⟨w.heap.size, 6, none⟩ = some (.string (bs (frmW 7)))) ∧ Below w.heap.size w w' := by
  go_enter Tryz.func39, Tryz.ntmps39
  go_wp2_with fail
  go_returns
  have k := Bk.new w 9 #[.string ⟨#[]⟩, .string ⟨#[109, 101, 116, 104, 111, 100]⟩, .string ⟨#[104, 111, 115, 116]⟩, .string ⟨#[101, 120, 97, 99, 116]⟩, .string ⟨#[112, 114, 101, 102, 105, 120]⟩, .string ⟨#[104, 101, 97, 100]⟩, .string ⟨#[104, 97, 115]⟩]
  exact ⟨rfl, ⟨Bk.cell k 1, Bk.cell k 2, Bk.cell k 3, Bk.cell k 4, Bk.cell k 5, Bk.cell k 6⟩, enew w _⟩
theorem keepK {v w' : World} {g : Nat} {k : Int} {n vv : List UInt8} (h : BP v g k n vv) (hz : Below v.heap.size v w') : w'.cell? ⟨g, 0, none⟩ = some (.int .i64 k) ∧ Below v.heap.size v w' := ⟨(h.up hz).cells.1, hz⟩
theorem keepP3 {v w' : World} {g : Nat} {k : Int} {n vv : List UInt8} (h : BP v g k n vv) (hz : Below v.heap.size v w') : BP w' g k n vv := h.up hz
/-- The word of a kind, and a blank: all ways of a kind meet here. -/
theorem word_len : ∀ i : Fin 14, (frmW i.val ++ [32]).length ≤ 7 := by decide +kernel
end Go.Proofs.YtingjembjpckcaaGreatDoor
namespace Go.Proofs.YtingjembjpckcaaGreatDoor
set_option linter.unusedVariables false
set_option linter.unusedSimpArgs false
open Go.RowKit Go.Joins

theorem lineN_one (i : Nat) (a : List UInt8) : lineN i [a] = (frmW i ++ [32]) ++ a ++ [10] := by simp [lineN, lineT]
theorem lineN_two (i : Nat) (a b : List UInt8) : lineN i [a, b] = (frmW i ++ [32]) ++ a ++ [32] ++ b ++ [10] := by simp [lineN, lineT]
theorem lineN_none (i : Nat) : lineN i [] = frmW i ++ [10] := by simp [lineN, lineT]
set_option maxRecDepth 100000 in
set_option maxHeartbeats 4000000 in
theorem rpredLine_1 (n v : List UInt8) (w : World) (hn : n.length ≤ 64) (hv : v.length ≤ 64) :
    Calls Tryz.prog 27 #[.agg #[.int .i64 1, .string (bs n), .string (bs v)]] w fun e w' => e = .returned (.string (bs (lineN 2 [v]))) ∧ Below w.heap.size w w' := by
  have hb0 := enew w (.cells #[.int .i64 1, .string (bs n), .string (bs v)] 37)
  have hp0 := BP.new w 1 n v
  have HB := hid hb0
  have HW := hid (fun w2 => words_any w2)
  have c1 : (ByteArray.mk #[32]) = bs [32] := rfl
  have c2 : (ByteArray.mk #[10]) = bs [10] := rfl
  have hwl := (frmW_len ⟨2, by omega⟩).1
  simp only at hwl
  have HLN := hid (lineN_one 2 v)
  generalize frmW 2 = fw at *
  clear hb0
  go_enter Tryz.func27, Tryz.ntmps27
  go_upto_region 1 with (fail)
  generalize w.alloc (.cells #[.int .i64 1, .string (bs n), .string (bs v)] 37) = v0 at *
  obtain ⟨p0, p1, p2⟩ := hp0.cells
  go_cut [3] from 4 to 9 (fun s wx => s = .string (bs (fw ++ [32])) ∧ Hid (Below v0.heap.size v0 wx))
  case first =>
    have hz0 : Below v0.heap.size v0 v0.drew := (Below.refl _ _).drew
    go_region_with (first
      | (go_at_call 39
         ((with_reducible refine (HW.out _).mono ?_); rintro e w6 ⟨rfl, ⟨hc, -, -, -, -, -⟩, hy⟩)
         have hz1 := hz0.trans (hy.mono hz0.size)
         have p9 := (hp0.up hz1).cells.1
         have hc9 : w6.cell? ⟨v0.heap.size, 1, none⟩ = some (.string (bs fw)) := hc))
    all_goals
      have hz9 := hid hz1
      go_wp2_with fail
      go_meet
      exact ⟨by simp, hz9.out⟩
  case rest =>
    obtain ⟨rfl, HB1⟩ := hcut
    obtain ⟨x1, rfl⟩ : ∃ x, x = wc := ⟨_, rfl⟩
    clear p0 p1 p2
    obtain ⟨p0, p1, p2⟩ := (hp0.up HB1.out).cells
    have lw : (fw ++ [32]).length ≤ 7 := by rw [List.length_append, List.length_cons, List.length_nil]; omega
    generalize fw ++ [32] = fx at *
    go_wp2_with fail
    go_returns
    exact ⟨by rw [HLN.out]; simp, estep HB.out HB1.out⟩
set_option maxRecDepth 100000 in
set_option maxHeartbeats 4000000 in
theorem rpredLine_2 (n v : List UInt8) (w : World) (hn : n.length ≤ 64) (hv : v.length ≤ 64) :
    Calls Tryz.prog 27 #[.agg #[.int .i64 2, .string (bs n), .string (bs v)]] w fun e w' => e = .returned (.string (bs (lineN 3 [v]))) ∧ Below w.heap.size w w' := by
  have hb0 := enew w (.cells #[.int .i64 2, .string (bs n), .string (bs v)] 37)
  have hp0 := BP.new w 2 n v
  have HB := hid hb0
  have HW := hid (fun w2 => words_any w2)
  have c1 : (ByteArray.mk #[32]) = bs [32] := rfl
  have c2 : (ByteArray.mk #[10]) = bs [10] := rfl
  have hwl := (frmW_len ⟨3, by omega⟩).1
  simp only at hwl
  have HLN := hid (lineN_one 3 v)
  generalize frmW 3 = fw at *
  clear hb0
  go_enter Tryz.func27, Tryz.ntmps27
  go_upto_region 1 with (fail)
  generalize w.alloc (.cells #[.int .i64 2, .string (bs n), .string (bs v)] 37) = v0 at *
  obtain ⟨p0, p1, p2⟩ := hp0.cells
  go_cut [3] from 4 to 9 (fun s wx => s = .string (bs (fw ++ [32])) ∧ Hid (Below v0.heap.size v0 wx))
  case first =>
    have hz0 : Below v0.heap.size v0 v0.drew := (Below.refl _ _).drew
    go_region_with (first
      | (go_at_call 39
         ((with_reducible refine (HW.out _).mono ?_); rintro e w6 ⟨rfl, ⟨-, hc, -, -, -, -⟩, hy⟩)
         have hz1 := hz0.trans (hy.mono hz0.size)
         have p9 := (hp0.up hz1).cells.1
         have hc9 : w6.cell? ⟨v0.heap.size, 2, none⟩ = some (.string (bs fw)) := hc))
    all_goals
      have hz9 := hid hz1
      go_wp2_with fail
      go_meet
      exact ⟨by simp, hz9.out⟩
  case rest =>
    obtain ⟨rfl, HB1⟩ := hcut
    obtain ⟨x1, rfl⟩ : ∃ x, x = wc := ⟨_, rfl⟩
    clear p0 p1 p2
    obtain ⟨p0, p1, p2⟩ := (hp0.up HB1.out).cells
    have lw : (fw ++ [32]).length ≤ 7 := by rw [List.length_append, List.length_cons, List.length_nil]; omega
    generalize fw ++ [32] = fx at *
    go_wp2_with fail
    go_returns
    exact ⟨by rw [HLN.out]; simp, estep HB.out HB1.out⟩
set_option maxRecDepth 100000 in
set_option maxHeartbeats 4000000 in
theorem rpredLine_3 (n v : List UInt8) (w : World) (hn : n.length ≤ 64) (hv : v.length ≤ 64) :
    Calls Tryz.prog 27 #[.agg #[.int .i64 3, .string (bs n), .string (bs v)]] w fun e w' => e = .returned (.string (bs (lineN 4 [v]))) ∧ Below w.heap.size w w' := by
  have hb0 := enew w (.cells #[.int .i64 3, .string (bs n), .string (bs v)] 37)
  have hp0 := BP.new w 3 n v
  have HB := hid hb0
  have HW := hid (fun w2 => words_any w2)
  have c1 : (ByteArray.mk #[32]) = bs [32] := rfl
  have c2 : (ByteArray.mk #[10]) = bs [10] := rfl
  have hwl := (frmW_len ⟨4, by omega⟩).1
  simp only at hwl
  have HLN := hid (lineN_one 4 v)
  generalize frmW 4 = fw at *
  clear hb0
  go_enter Tryz.func27, Tryz.ntmps27
  go_upto_region 1 with (fail)
  generalize w.alloc (.cells #[.int .i64 3, .string (bs n), .string (bs v)] 37) = v0 at *
  obtain ⟨p0, p1, p2⟩ := hp0.cells
  go_cut [3] from 4 to 9 (fun s wx => s = .string (bs (fw ++ [32])) ∧ Hid (Below v0.heap.size v0 wx))
  case first =>
    have hz0 : Below v0.heap.size v0 v0.drew := (Below.refl _ _).drew
    go_region_with (first
      | (go_at_call 39
         ((with_reducible refine (HW.out _).mono ?_); rintro e w6 ⟨rfl, ⟨-, -, hc, -, -, -⟩, hy⟩)
         have hz1 := hz0.trans (hy.mono hz0.size)
         have p9 := (hp0.up hz1).cells.1
         have hc9 : w6.cell? ⟨v0.heap.size, 3, none⟩ = some (.string (bs fw)) := hc))
    all_goals
      have hz9 := hid hz1
      go_wp2_with fail
      go_meet
      exact ⟨by simp, hz9.out⟩
  case rest =>
    obtain ⟨rfl, HB1⟩ := hcut
    obtain ⟨x1, rfl⟩ : ∃ x, x = wc := ⟨_, rfl⟩
    clear p0 p1 p2
    obtain ⟨p0, p1, p2⟩ := (hp0.up HB1.out).cells
    have lw : (fw ++ [32]).length ≤ 7 := by rw [List.length_append, List.length_cons, List.length_nil]; omega
    generalize fw ++ [32] = fx at *
    go_wp2_with fail
    go_returns
    exact ⟨by rw [HLN.out]; simp, estep HB.out HB1.out⟩
set_option maxRecDepth 100000 in
set_option maxHeartbeats 4000000 in
theorem rpredLine_4 (n v : List UInt8) (w : World) (hn : n.length ≤ 64) (hv : v.length ≤ 64) :
    Calls Tryz.prog 27 #[.agg #[.int .i64 4, .string (bs n), .string (bs v)]] w fun e w' => e = .returned (.string (bs (lineN 5 [v]))) ∧ Below w.heap.size w w' := by
  have hb0 := enew w (.cells #[.int .i64 4, .string (bs n), .string (bs v)] 37)
  have hp0 := BP.new w 4 n v
  have HB := hid hb0
  have HW := hid (fun w2 => words_any w2)
  have c1 : (ByteArray.mk #[32]) = bs [32] := rfl
  have c2 : (ByteArray.mk #[10]) = bs [10] := rfl
  have hwl := (frmW_len ⟨5, by omega⟩).1
  simp only at hwl
  have HLN := hid (lineN_one 5 v)
  generalize frmW 5 = fw at *
  clear hb0
  go_enter Tryz.func27, Tryz.ntmps27
  go_upto_region 1 with (fail)
  generalize w.alloc (.cells #[.int .i64 4, .string (bs n), .string (bs v)] 37) = v0 at *
  obtain ⟨p0, p1, p2⟩ := hp0.cells
  go_cut [3] from 4 to 9 (fun s wx => s = .string (bs (fw ++ [32])) ∧ Hid (Below v0.heap.size v0 wx))
  case first =>
    have hz0 : Below v0.heap.size v0 v0.drew := (Below.refl _ _).drew
    go_region_with (first
      | (go_at_call 39
         ((with_reducible refine (HW.out _).mono ?_); rintro e w6 ⟨rfl, ⟨-, -, -, hc, -, -⟩, hy⟩)
         have hz1 := hz0.trans (hy.mono hz0.size)
         have p9 := (hp0.up hz1).cells.1
         have hc9 : w6.cell? ⟨v0.heap.size, 4, none⟩ = some (.string (bs fw)) := hc))
    all_goals
      have hz9 := hid hz1
      go_wp2_with fail
      go_meet
      exact ⟨by simp, hz9.out⟩
  case rest =>
    obtain ⟨rfl, HB1⟩ := hcut
    obtain ⟨x1, rfl⟩ : ∃ x, x = wc := ⟨_, rfl⟩
    clear p0 p1 p2
    obtain ⟨p0, p1, p2⟩ := (hp0.up HB1.out).cells
    have lw : (fw ++ [32]).length ≤ 7 := by rw [List.length_append, List.length_cons, List.length_nil]; omega
    generalize fw ++ [32] = fx at *
    go_wp2_with fail
    go_returns
    exact ⟨by rw [HLN.out]; simp, estep HB.out HB1.out⟩
set_option maxRecDepth 100000 in
set_option maxHeartbeats 4000000 in
theorem rpredLine_5 (n v : List UInt8) (w : World) (hn : n.length ≤ 64) (hv : v.length ≤ 64) :
    Calls Tryz.prog 27 #[.agg #[.int .i64 5, .string (bs n), .string (bs v)]] w fun e w' => e = .returned (.string (bs (lineN 6 [n, v]))) ∧ Below w.heap.size w w' := by
  have hb0 := enew w (.cells #[.int .i64 5, .string (bs n), .string (bs v)] 37)
  have hp0 := BP.new w 5 n v
  have HB := hid hb0
  have HW := hid (fun w2 => words_any w2)
  have c1 : (ByteArray.mk #[32]) = bs [32] := rfl
  have c2 : (ByteArray.mk #[10]) = bs [10] := rfl
  have hwl := (frmW_len ⟨6, by omega⟩).1
  simp only at hwl
  have HLN := hid (lineN_two 6 n v)
  generalize frmW 6 = fw at *
  clear hb0
  go_enter Tryz.func27, Tryz.ntmps27
  go_upto_region 1 with (fail)
  generalize w.alloc (.cells #[.int .i64 5, .string (bs n), .string (bs v)] 37) = v0 at *
  obtain ⟨p0, p1, p2⟩ := hp0.cells
  go_cut [3] from 4 to 9 (fun s wx => s = .string (bs (fw ++ [32])) ∧ Hid (Below v0.heap.size v0 wx))
  case first =>
    have hz0 : Below v0.heap.size v0 v0.drew := (Below.refl _ _).drew
    go_region_with (first
      | (go_at_call 39
         ((with_reducible refine (HW.out _).mono ?_); rintro e w6 ⟨rfl, ⟨-, -, -, -, hc, -⟩, hy⟩)
         have hz1 := hz0.trans (hy.mono hz0.size)
         have p9 := (hp0.up hz1).cells.1
         have hc9 : w6.cell? ⟨v0.heap.size, 5, none⟩ = some (.string (bs fw)) := hc))
    all_goals
      have hz9 := hid hz1
      go_wp2_with fail
      go_meet
      exact ⟨by simp, hz9.out⟩
  case rest =>
    obtain ⟨rfl, HB1⟩ := hcut
    obtain ⟨x1, rfl⟩ : ∃ x, x = wc := ⟨_, rfl⟩
    clear p0 p1 p2
    obtain ⟨p0, p1, p2⟩ := (hp0.up HB1.out).cells
    have lw : (fw ++ [32]).length ≤ 7 := by rw [List.length_append, List.length_cons, List.length_nil]; omega
    generalize fw ++ [32] = fx at *
    go_wp2_with fail
    go_returns
    exact ⟨by rw [HLN.out]; simp, estep HB.out HB1.out⟩
set_option maxRecDepth 100000 in
set_option maxHeartbeats 4000000 in
theorem rpredLine_6 (n v : List UInt8) (w : World) (hn : n.length ≤ 64) (hv : v.length ≤ 64) :
    Calls Tryz.prog 27 #[.agg #[.int .i64 6, .string (bs n), .string (bs v)]] w fun e w' => e = .returned (.string (bs (lineN 7 [n]))) ∧ Below w.heap.size w w' := by
  have hb0 := enew w (.cells #[.int .i64 6, .string (bs n), .string (bs v)] 37)
  have hp0 := BP.new w 6 n v
  have HB := hid hb0
  have HW := hid (fun w2 => words_any w2)
  have c1 : (ByteArray.mk #[32]) = bs [32] := rfl
  have c2 : (ByteArray.mk #[10]) = bs [10] := rfl
  have hwl := (frmW_len ⟨7, by omega⟩).1
  simp only at hwl
  have HLN := hid (lineN_one 7 n)
  generalize frmW 7 = fw at *
  clear hb0
  go_enter Tryz.func27, Tryz.ntmps27
  go_upto_region 1 with (fail)
  generalize w.alloc (.cells #[.int .i64 6, .string (bs n), .string (bs v)] 37) = v0 at *
  obtain ⟨p0, p1, p2⟩ := hp0.cells
  go_cut [3] from 4 to 9 (fun s wx => s = .string (bs (fw ++ [32])) ∧ Hid (Below v0.heap.size v0 wx))
  case first =>
    have hz0 : Below v0.heap.size v0 v0.drew := (Below.refl _ _).drew
    go_region_with (first
      | (go_at_call 39
         ((with_reducible refine (HW.out _).mono ?_); rintro e w6 ⟨rfl, ⟨-, -, -, -, -, hc⟩, hy⟩)
         have hz1 := hz0.trans (hy.mono hz0.size)
         have p9 := (hp0.up hz1).cells.1
         have hc9 : w6.cell? ⟨v0.heap.size, 6, none⟩ = some (.string (bs fw)) := hc))
    all_goals
      have hz9 := hid hz1
      go_wp2_with fail
      go_meet
      exact ⟨by simp, hz9.out⟩
  case rest =>
    obtain ⟨rfl, HB1⟩ := hcut
    obtain ⟨x1, rfl⟩ : ∃ x, x = wc := ⟨_, rfl⟩
    clear p0 p1 p2
    obtain ⟨p0, p1, p2⟩ := (hp0.up HB1.out).cells
    have lw : (fw ++ [32]).length ≤ 7 := by rw [List.length_append, List.length_cons, List.length_nil]; omega
    generalize fw ++ [32] = fx at *
    go_wp2_with fail
    go_returns
    exact ⟨by rw [HLN.out]; simp, estep HB.out HB1.out⟩
theorem rpredLine_any (k : Int) (n v : List UInt8) (w : World) (h : cE k n v = 0) :
    Calls Tryz.prog 27 #[.agg #[.int .i64 k, .string (bs n), .string (bs v)]] w fun e w' => e = .returned (.string (bs (predN ⟨k, n, v⟩))) ∧ Below w.heap.size w w' := by
  obtain ⟨hk, hn, hv⟩ := cE_form h
  rcases hk with rfl | rfl | rfl | rfl | rfl | rfl
  · exact rpredLine_1 n v w hn hv
  · exact rpredLine_2 n v w hn hv
  · exact rpredLine_3 n v w hn hv
  · exact rpredLine_4 n v w hn hv
  · exact rpredLine_5 n v w hn hv
  · exact rpredLine_6 n v w hn hv
end Go.Proofs.YtingjembjpckcaaGreatDoor
namespace Go.Proofs.YtingjembjpckcaaGreatDoor
set_option linter.unusedVariables false
set_option linter.unusedSimpArgs false
open Go.RowKit Go.Joins

set_option maxRecDepth 100000 in
set_option maxHeartbeats 1600000 in
theorem rruleText_any (u : Ru) (w : World) (hu : UV w u) (hc : cfR u.sem = 0) :
    Calls Tryz.prog 16 #[.agg #[.int .i64 u.rank, .slice u.xa u.xn u.xc, .string (bs u.tg), .int .i64 u.ap, .int .i64 u.st, .int .i64 u.dp, .int .i64 u.dt, .int .i64 u.mp, .string (bs u.mi), .int .i64 u.sm]] w fun e w' => e = .returned (.string (bs (ruleN u.sem))) ∧ Below w.heap.size w w' := by
  have hnot := enot
  have hb0 := enew w (.cells #[.int .i64 u.rank, .slice u.xa u.xn u.xc, .string (bs u.tg), .int .i64 u.ap, .int .i64 u.st, .int .i64 u.dp, .int .i64 u.dt, .int .i64 u.mp, .string (bs u.mi), .int .i64 u.sm] 40)
  have hr0 := BR.new w u
  obtain ⟨hn, hpx, _, _, hl9⟩ := (hu.up hb0).out
  obtain ⟨hps4, hps, htg, hmi, n0, n1, n2, n3, n4, n5, n6⟩ := cfR_ok hc
  obtain ⟨rk, xa, xn, xc, ps, tg, ap, st, dp, dt, mp, mi, sm⟩ := u
  simp only [Ru.sem] at hps4 hps htg hmi n0 n1 n2 n3 n4 n5 n6 ⊢
  simp only at hn hpx hl9 hr0 hb0 ⊢
  subst hn
  have ltg := name_len htg
  have lmi : mi.length ≤ 64 := by
    unfold mirB at hmi
    by_cases hm : mi = []
    · rw [hm]; simp
    · rw [if_neg hm] at hmi; exact name_len hmi
  have i0 := itoa_len n0
  have i1 := itoa_len n1
  have i2 := itoa_len n2
  have i3 := itoa_len n3
  have i4 := itoa_len n4
  have i5 := itoa_len n5
  have i6 := itoa_len n6
  have D0 := hid (fun w2 => rdig_any rk n0 w2)
  have D1 := hid (fun w2 => rdig_any ap n1 w2)
  have D2 := hid (fun w2 => rdig_any st n2 w2)
  have D3 := hid (fun w2 => rdig_any dp n3 w2)
  have D4 := hid (fun w2 => rdig_any dt n4 w2)
  have D5 := hid (fun w2 => rdig_any mp n5 w2)
  have D6 := hid (fun w2 => rdig_any sm n6 w2)
  have HT1 := hid (show lineN 1 [Lib.itoa rk] = [114, 117, 108, 101, 32] ++ Lib.itoa rk ++ [10] by rw [lineN_one]; rfl)
  have HT8 := hid (show lineN 8 [tg] = [116, 111, 32] ++ tg ++ [10] by rw [lineN_one]; rfl)
  have HT9 := hid (show lineN 9 [Lib.itoa ap, Lib.itoa st] = [97, 98, 111, 114, 116, 32] ++ Lib.itoa ap ++ [32] ++ Lib.itoa st ++ [10] by rw [lineN_two]; rfl)
  have HTA := hid (show lineN 10 [Lib.itoa dp, Lib.itoa dt] = [100, 101, 108, 97, 121, 32] ++ Lib.itoa dp ++ [32] ++ Lib.itoa dt ++ [10] by rw [lineN_two]; rfl)
  have HTB := hid (show lineN 11 [Lib.itoa mp, mi] = [109, 105, 114, 114, 111, 114, 32] ++ Lib.itoa mp ++ [32] ++ mi ++ [10] by rw [lineN_two]; rfl)
  have HTC := hid (show lineN 12 [Lib.itoa sm] = [115, 97, 109, 112, 108, 101, 32] ++ Lib.itoa sm ++ [10] by rw [lineN_one]; rfl)
  obtain ⟨za, hza⟩ : ∃ b : Bool, b = (!decide (ap = 0) || !decide (st = 0)) := ⟨_, rfl⟩
  obtain ⟨zd, hzd⟩ : ∃ b : Bool, b = (!decide (dp = 0) || !decide (dt = 0)) := ⟨_, rfl⟩
  obtain ⟨zm, hzm⟩ : ∃ b : Bool, b = (!mi.isEmpty) := ⟨_, rfl⟩
  obtain ⟨zs, hzs⟩ : ∃ b : Bool, b = (!decide (sm = 0)) := ⟨_, rfl⟩
  have ha : abN ⟨rk, ps, tg, ap, st, dp, dt, mp, mi, sm⟩ = if za = true then lineN 9 [Lib.itoa ap, Lib.itoa st] else [] := by
    rw [abN, hza]; by_cases h1 : ap = 0 <;> by_cases h2 : st = 0 <;> simp [h1, h2]
  have hd : deN ⟨rk, ps, tg, ap, st, dp, dt, mp, mi, sm⟩ = if zd = true then lineN 10 [Lib.itoa dp, Lib.itoa dt] else [] := by
    rw [deN, hzd]; by_cases h1 : dp = 0 <;> by_cases h2 : dt = 0 <;> simp [h1, h2]
  have hm : miN ⟨rk, ps, tg, ap, st, dp, dt, mp, mi, sm⟩ = if zm = true then lineN 11 [Lib.itoa mp, mi] else [] := by
    rw [miN, hzm]; cases mi <;> simp
  have hs : saN ⟨rk, ps, tg, ap, st, dp, dt, mp, mi, sm⟩ = if zs = true then lineN 12 [Lib.itoa sm] else [] := by
    rw [saN, hzs]; by_cases h1 : sm = 0 <;> simp [h1]
  have HRN := hid (show ruleN ⟨rk, ps, tg, ap, st, dp, dt, mp, mi, sm⟩ = lineN 1 [Lib.itoa rk] ++ (ps.flatMap predN ++ (lineN 8 [tg] ++ ((if za = true then lineN 9 [Lib.itoa ap, Lib.itoa st] else []) ++ ((if zd = true then lineN 10 [Lib.itoa dp, Lib.itoa dt] else []) ++ ((if zm = true then lineN 11 [Lib.itoa mp, mi] else []) ++ (if zs = true then lineN 12 [Lib.itoa sm] else [])))))) by rw [ruleN, ha, hd, hm, hs])
  have HZA := hid hza
  have HZD := hid hzd
  have HZM := hid hzm
  have HZS := hid hzs
  clear ha hd hm hs hza hzd hzm hzs
  have l1 := lineN_len (i := 1) (by omega) (bh := [Lib.itoa rk]) (by simp; omega) (by simp)
  have l8 := lineN_len (i := 8) (by omega) (bh := [tg]) (by simp; omega) (by simp)
  have l9 := lineN_len (i := 9) (by omega) (bh := [Lib.itoa ap, Lib.itoa st]) (by simp; omega) (by simp)
  have lA := lineN_len (i := 10) (by omega) (bh := [Lib.itoa dp, Lib.itoa dt]) (by simp; omega) (by simp)
  have lB := lineN_len (i := 11) (by omega) (bh := [Lib.itoa mp, mi]) (by simp; omega) (by simp)
  have lC := lineN_len (i := 12) (by omega) (bh := [Lib.itoa sm]) (by simp; omega) (by simp)
  have HR := hid hpx
  have HPS := hid hps
  have HB := hid hb0
  clear hu hpx hps hb0 hc n0 n1 n2 n3 n4 n5 n6 htg hmi
  generalize lineN 1 [Lib.itoa rk] = t1 at *
  generalize lineN 8 [tg] = t8 at *
  generalize lineN 9 [Lib.itoa ap, Lib.itoa st] = t9 at *
  generalize lineN 10 [Lib.itoa dp, Lib.itoa dt] = tA at *
  generalize lineN 11 [Lib.itoa mp, mi] = tB at *
  generalize lineN 12 [Lib.itoa sm] = tC at *
  generalize Lib.itoa rk = d0 at *
  generalize Lib.itoa ap = d1 at *
  generalize Lib.itoa st = d2 at *
  generalize Lib.itoa dp = d3 at *
  generalize Lib.itoa dt = d4 at *
  generalize Lib.itoa mp = d5 at *
  generalize Lib.itoa sm = d6 at *
  have k0 : (ByteArray.mk #[114, 117, 108, 101, 32]) = bs [114, 117, 108, 101, 32] := rfl
  have k1 : (ByteArray.mk #[116, 111, 32]) = bs [116, 111, 32] := rfl
  have k2 : (ByteArray.mk #[97, 98, 111, 114, 116, 32]) = bs [97, 98, 111, 114, 116, 32] := rfl
  have k3 : (ByteArray.mk #[100, 101, 108, 97, 121, 32]) = bs [100, 101, 108, 97, 121, 32] := rfl
  have k4 : (ByteArray.mk #[109, 105, 114, 114, 111, 114, 32]) = bs [109, 105, 114, 114, 111, 114, 32] := rfl
  have k5 : (ByteArray.mk #[115, 97, 109, 112, 108, 101, 32]) = bs [115, 97, 109, 112, 108, 101, 32] := rfl
  have k6 : (ByteArray.mk #[32]) = bs [32] := rfl
  have k7 : (ByteArray.mk #[10]) = bs [10] := rfl
  go_enter Tryz.func16, Tryz.ntmps16
  go_upto_region 1 with (fail)
  generalize w.alloc (.cells #[.int .i64 rk, .slice xa ps.length xc, .string (bs tg), .int .i64 ap, .int .i64 st, .int .i64 dp, .int .i64 dt, .int .i64 mp, .string (bs mi), .int .i64 sm] 40) = v0 at *
  obtain ⟨r0, r1, r2, r3, r4, r5, r6, r7, r8, r9⟩ := hr0.cells
  go_cut [3] from 5 to 9 (fun s wx => s = .string (bs t1) ∧ Hid (Below v0.heap.size v0 wx))
  case first =>
    go_wp2_with fail
    refine (D0.out _).mono ?_
    rintro e w1 ⟨rfl, hb1⟩
    have HB1 := hid hb1
    clear hb1
    go_wp2_with fail
    go_meet
    exact ⟨by rw [HT1.out]; simp, HB1.out⟩
  case rest =>
  obtain ⟨rfl, HB2⟩ := hcut
  obtain ⟨w2, rfl⟩ : ∃ x, x = wc := ⟨_, rfl⟩
  clear r0 r1 r2 r3 r4 r5 r6 r7 r8 r9
  go_upto_region 3 with (fail)
  go_loopg [3, 4] ps.length (fun g1 s vi wr => ∃ k : Nat, vi = .int .i64 k ∧ k ≤ ps.length ∧ ps.length - k ≤ g1 ∧ s = .string (bs (t1 ++ (ps.take k).flatMap predN)) ∧ Hid (Below v0.heap.size v0 wr))
  case atStart => exact ⟨0, rfl, by omega, by omega, by simp, HB2.out⟩
  case round =>
    obtain ⟨k, rfl, hk, hgk, rfl, HW⟩ := hrel
    by_cases hlt : k < ps.length
    · obtain ⟨bb, o, rfl, hB, c0, c1, c2⟩ := (HR.out.up HW.out) k hlt
      obtain ⟨r0, r1, r2, r3, r4, r5, r6, r7, r8, r9⟩ := (hr0.up HW.out).cells
      have HP := hid (HPS.out _ (List.getElem_mem hlt))
      have HUP := hid (preds_up (ps := ps) hlt)
      have hlp := preds_len (ps := ps.take k) fun q hq => HPS.out q (List.mem_of_mem_take hq)
      have htk : (ps.take k).length ≤ 4 := by rw [List.length_take]; omega
      have hl2 : ((ps.take k).flatMap predN).length ≤ 8036 := by omega
      have hl3 := predN_len HP.out
      have hki : decide ((k : Int) < ((ps.length : Nat) : Int)) = true := by simp; omega
      have hk0 : (0 : Int) ≤ (k : Int) := by omega
      have hk1 : (k : Int) < (ps.length : Int) := by omega
      generalize hpk : ps[k] = y at *
      clear hpk hlp htk
      obtain ⟨yk, yn, yv⟩ := y
      simp only at c0 c1 c2 HP
      have HT := hid (fun w2 => rpredLine_any yk yn yv w2 HP.out)
      generalize predN ⟨yk, yn, yv⟩ = tp at *
      generalize (ps.take k).flatMap predN = acc at *
      go_wp2_with fail
      refine (HT.out _).mono ?_
      rintro e w4 ⟨rfl, hb4⟩
      have HB4 := hid (estep HW.out hb4)
      clear hb4 c0 c1 c2 r0 r1 r2 r3 r4 r5 r6 r7 r8 r9
      go_wp2_with fail
      go_roundg (ps.length - (k + 1))
      case measure => omega
      case rel => exact ⟨k + 1, by go_num, by omega, by omega, by rw [HUP.out, ← List.append_assoc], HB4.out⟩
    · obtain rfl : k = ps.length := by omega
      have hki : decide (((ps.length : Nat) : Int) < ((ps.length : Nat) : Int)) = false := by simp
      have hlp := preds_len (ps := ps) HPS.out
      have hl2 : (ps.flatMap predN).length ≤ 8036 := by omega
      rw [List.take_length]
      obtain ⟨r0, r1, r2, r3, r4, r5, r6, r7, r8, r9⟩ := (hr0.up HW.out).cells
      obtain ⟨a1, ha1⟩ : ∃ x, t1 ++ ps.flatMap predN = x := ⟨_, rfl⟩
      have la1 : a1.length ≤ 10045 := by rw [← ha1, List.length_append]; omega
      have HA1 := hid ha1
      rw [ha1]
      clear hl2 hlp ha1 HR HPS
      have la2 : (a1 ++ t8).length ≤ 12054 := by rw [List.length_append]; omega
      go_upto_region 6 with (fail)
      obtain ⟨x4, hx4⟩ : ∃ x, x = wr := ⟨_, rfl⟩
      subst hx4
      go_cut [3] from 25 to 30 (fun s wx => s = .string (bs (a1 ++ t8)) ∧ wx = x4)
      case first =>
        go_wp2_with fail
        go_meet
        exact ⟨by rw [HT8.out]; simp, rfl⟩
      case rest =>
      obtain ⟨rfl, hwc⟩ := hcut
      subst hwc
      obtain ⟨w5, rfl⟩ : ∃ x, x = wc := ⟨_, rfl⟩
      have HB5 := hid HW.out
      clear r0 r1 r2 r3 r4 r5 r6 r7 r8 r9
      obtain ⟨a2, ha2⟩ : ∃ x, a1 ++ t8 = x := ⟨_, rfl⟩
      have HA2 := hid ha2
      rw [ha2] at la2 ⊢
      clear ha2 la1
      go_upto_region 7 with (fail)
      have HB5' := HB5
      obtain ⟨x5, hx5⟩ : ∃ x, x = w5 := ⟨_, rfl⟩
      subst hx5
      obtain ⟨r0, r1, r2, r3, r4, r5, r6, r7, r8, r9⟩ := (hr0.up HB5.out).cells
      go_cut [38] from 31 to 38 (fun s wx => s = .bool za ∧ wx = x5)
      case first =>
        by_cases b1 : ap = 0
        · by_cases b2 : st = 0
          · have HV := hid (show za = false by rw [HZA.out, decide_eq_true b1, decide_eq_true b2]; rfl)
            subst b1 b2
            go_wp2_with fail
            go_meet
            exact ⟨by first | (rw [HV.out]; done) | (rw [HV.out]; rfl) | (rw [HV.out]; exact congrArg Value.bool HNE.out), rfl⟩
          · have HV := hid (show za = true by rw [HZA.out, decide_eq_true b1, decide_eq_false b2]; rfl)
            have c1 : decide (st = 0) = false := decide_eq_false b2
            have c2 : (!decide (st = 0)) = true := by rw [c1]; rfl
            have HNE := hid (show (st != 0) = true by simpa using b2)
            subst b1
            go_wp2_with fail
            go_meet
            exact ⟨by first | (rw [HV.out]; done) | (rw [HV.out]; rfl) | (rw [HV.out]; exact congrArg Value.bool HNE.out), rfl⟩
        · have HV := hid (show za = true by rw [HZA.out, decide_eq_false b1]; rfl)
          have c1 : decide (ap = 0) = false := decide_eq_false b1
          have c2 : (!decide (ap = 0)) = true := by rw [c1]; rfl
          have HNE := hid (show (ap != 0) = true by simpa using b1)
          go_wp2_with fail
          go_meet
          exact ⟨by first | (rw [HV.out]; done) | (rw [HV.out]; rfl) | (rw [HV.out]; exact congrArg Value.bool HNE.out), rfl⟩
      case rest =>
        obtain ⟨rfl, hwc⟩ := hcut
        subst hwc
        obtain ⟨x5, rfl⟩ : ∃ x, x = wc := ⟨_, rfl⟩
        clear r0 r1 r2 r3 r4 r5 r6 r7 r8 r9
        obtain ⟨r0, r1, r2, r3, r4, r5, r6, r7, r8, r9⟩ := (hr0.up HB5.out).cells
        go_upto_if 38 with (fail)
        go_cut [3] from 31 to 50 (fun s wx => s = .string (bs (a2 ++ if za = true then t9 else [])) ∧ Hid (Below v0.heap.size v0 wx))
        case first =>
          cases za
          · go_wp2_with fail
            go_meet
            exact ⟨by simp, HB5.out⟩
          · go_upto_region 8 with (fail)
            have R3 := BW.cell r3
            have R4 := BW.cell r4
            refine wp_region_bw (by kernel_rfl) (by kernel_rfl) ?_
            repeat (go_big_quiet_step ((go_at_call 26; first | (with_reducible exact calls_bw (D1.out _)) | (with_reducible exact calls_bw (D2.out _)))))
            refine wpQuiet_nil ?_
            rintro _ ⟨pq, rfl⟩
            clear R3 R4
            have hz9 := hid (estep HB5.out pq.h)
            go_wp2_with fail
            go_meet
            exact ⟨by rw [HT9.out]; simp, hz9.out⟩
        case rest =>
          obtain ⟨rfl, HB6⟩ := hcut
          obtain ⟨w6, rfl⟩ : ∃ x, x = wc := ⟨_, rfl⟩
          clear r0 r1 r2 r3 r4 r5 r6 r7 r8 r9
          obtain ⟨a3, ha3⟩ : ∃ x, a2 ++ (if za = true then t9 else []) = x := ⟨_, rfl⟩
          have la3 : a3.length ≤ 14063 := by
            rw [← ha3, List.length_append]
            split
            · omega
            · simp; omega
          have Ha3 := hid ha3
          rw [ha3]
          clear ha3 la2
          go_upto_region 9 with (fail)
          obtain ⟨r0, r1, r2, r3, r4, r5, r6, r7, r8, r9⟩ := (hr0.up HB6.out).cells
          go_cut [58] from 51 to 58 (fun s wx => s = .bool zd ∧ wx = w6)
          case first =>
            by_cases b1 : dp = 0
            · by_cases b2 : dt = 0
              · have HV := hid (show zd = false by rw [HZD.out, decide_eq_true b1, decide_eq_true b2]; rfl)
                subst b1 b2
                go_wp2_with fail
                go_meet
                exact ⟨by first | (rw [HV.out]; done) | (rw [HV.out]; rfl) | (rw [HV.out]; exact congrArg Value.bool HNE.out), rfl⟩
              · have HV := hid (show zd = true by rw [HZD.out, decide_eq_true b1, decide_eq_false b2]; rfl)
                have c1 : decide (dt = 0) = false := decide_eq_false b2
                have c2 : (!decide (dt = 0)) = true := by rw [c1]; rfl
                have HNE := hid (show (dt != 0) = true by simpa using b2)
                subst b1
                go_wp2_with fail
                go_meet
                exact ⟨by first | (rw [HV.out]; done) | (rw [HV.out]; rfl) | (rw [HV.out]; exact congrArg Value.bool HNE.out), rfl⟩
            · have HV := hid (show zd = true by rw [HZD.out, decide_eq_false b1]; rfl)
              have c1 : decide (dp = 0) = false := decide_eq_false b1
              have c2 : (!decide (dp = 0)) = true := by rw [c1]; rfl
              have HNE := hid (show (dp != 0) = true by simpa using b1)
              go_wp2_with fail
              go_meet
              exact ⟨by first | (rw [HV.out]; done) | (rw [HV.out]; rfl) | (rw [HV.out]; exact congrArg Value.bool HNE.out), rfl⟩
          case rest =>
            obtain ⟨rfl, hwc⟩ := hcut
            subst hwc
            obtain ⟨x6, rfl⟩ : ∃ x, x = wc := ⟨_, rfl⟩
            clear r0 r1 r2 r3 r4 r5 r6 r7 r8 r9
            obtain ⟨r0, r1, r2, r3, r4, r5, r6, r7, r8, r9⟩ := (hr0.up HB6.out).cells
            go_upto_if 58 with (fail)
            go_cut [3] from 51 to 70 (fun s wx => s = .string (bs (a3 ++ if zd = true then tA else [])) ∧ Hid (Below v0.heap.size v0 wx))
            case first =>
              cases zd
              · go_wp2_with fail
                go_meet
                exact ⟨by simp, HB6.out⟩
              · go_upto_region 10 with (fail)
                have R5 := BW.cell r5
                have R6 := BW.cell r6
                refine wp_region_bw (by kernel_rfl) (by kernel_rfl) ?_
                repeat (go_big_quiet_step ((go_at_call 26; first | (with_reducible exact calls_bw (D3.out _)) | (with_reducible exact calls_bw (D4.out _)))))
                refine wpQuiet_nil ?_
                rintro _ ⟨pq, rfl⟩
                clear R5 R6
                have hz9 := hid (estep HB6.out pq.h)
                go_wp2_with fail
                go_meet
                exact ⟨by rw [HTA.out]; simp, hz9.out⟩
            case rest =>
              obtain ⟨rfl, HB7⟩ := hcut
              obtain ⟨w7, rfl⟩ : ∃ x, x = wc := ⟨_, rfl⟩
              clear r0 r1 r2 r3 r4 r5 r6 r7 r8 r9
              obtain ⟨a4, ha4⟩ : ∃ x, a3 ++ (if zd = true then tA else []) = x := ⟨_, rfl⟩
              have la4 : a4.length ≤ 16072 := by
                rw [← ha4, List.length_append]
                split
                · omega
                · simp; omega
              have Ha4 := hid ha4
              rw [ha4]
              clear ha4 la3
              go_upto_region 11 with (fail)
              have c0 : (ByteArray.mk #[]) = bs [] := rfl
              obtain ⟨r0, r1, r2, r3, r4, r5, r6, r7, r8, r9⟩ := (hr0.up HB7.out).cells
              go_cut [73] from 71 to 73 (fun s wx => s = .bool zm ∧ wx = w7)
              case first =>
                by_cases b1 : mi = []
                · have HV := hid (show zm = false by rw [HZM.out, b1]; rfl)
                  subst b1
                  go_wp2_with fail
                  go_meet
                  exact ⟨by first | (rw [HV.out]; done) | (rw [HV.out]; rfl) | (rw [HV.out]; exact congrArg Value.bool HNE.out), rfl⟩
                · have hmd : mi.isEmpty = false := by cases mi with
                    | nil => exact absurd rfl b1
                    | cons => rfl
                  have HV := hid (show zm = true by rw [HZM.out, hmd]; rfl)
                  have c1 : (!mi.isEmpty) = true := by rw [hmd]; rfl
                  have HNE := hid c1
                  go_wp2_with fail
                  go_meet
                  exact ⟨by first | (rw [HV.out]; done) | (rw [HV.out]; rfl) | (rw [HV.out]; exact congrArg Value.bool HNE.out), rfl⟩
              case rest =>
                obtain ⟨rfl, hwc⟩ := hcut
                subst hwc
                obtain ⟨x7, rfl⟩ : ∃ x, x = wc := ⟨_, rfl⟩
                clear r0 r1 r2 r3 r4 r5 r6 r7 r8 r9
                obtain ⟨r0, r1, r2, r3, r4, r5, r6, r7, r8, r9⟩ := (hr0.up HB7.out).cells
                go_upto_if 73 with (fail)
                go_cut [3] from 71 to 84 (fun s wx => s = .string (bs (a4 ++ if zm = true then tB else [])) ∧ Hid (Below v0.heap.size v0 wx))
                case first =>
                  cases zm
                  · go_wp2_with fail
                    go_meet
                    exact ⟨by simp, HB7.out⟩
                  · go_upto_region 12 with (fail)
                    have R7 := BW.cell r7
                    have R8 := BW.cell r8
                    refine wp_region_bw (by kernel_rfl) (by kernel_rfl) ?_
                    repeat (go_big_quiet_step ((go_at_call 26; first | (with_reducible exact calls_bw (D5.out _)) | (with_reducible exact calls_bw (D5.out _)))))
                    refine wpQuiet_nil ?_
                    rintro _ ⟨pq, rfl⟩
                    clear R7 R8
                    have hz9 := hid (estep HB7.out pq.h)
                    go_wp2_with fail
                    go_meet
                    exact ⟨by rw [HTB.out]; simp, hz9.out⟩
                case rest =>
                  obtain ⟨rfl, HB8⟩ := hcut
                  obtain ⟨w8, rfl⟩ : ∃ x, x = wc := ⟨_, rfl⟩
                  clear r0 r1 r2 r3 r4 r5 r6 r7 r8 r9
                  obtain ⟨a5, ha5⟩ : ∃ x, a4 ++ (if zm = true then tB else []) = x := ⟨_, rfl⟩
                  have la5 : a5.length ≤ 18081 := by
                    rw [← ha5, List.length_append]
                    split
                    · omega
                    · simp; omega
                  have Ha5 := hid ha5
                  rw [ha5]
                  clear ha5 la4
                  go_upto_region 13 with (fail)
                  obtain ⟨r0, r1, r2, r3, r4, r5, r6, r7, r8, r9⟩ := (hr0.up HB8.out).cells
                  go_cut [87] from 85 to 87 (fun s wx => s = .bool zs ∧ wx = w8)
                  case first =>
                    by_cases b1 : sm = 0
                    · have HV := hid (show zs = false by rw [HZS.out, decide_eq_true b1]; rfl)
                      subst b1
                      go_wp2_with fail
                      go_meet
                      exact ⟨by first | (rw [HV.out]; done) | (rw [HV.out]; rfl) | (rw [HV.out]; exact congrArg Value.bool HNE.out), rfl⟩
                    · have HV := hid (show zs = true by rw [HZS.out, decide_eq_false b1]; rfl)
                      have c1 : decide (sm = 0) = false := decide_eq_false b1
                      have c2 : (!decide (sm = 0)) = true := by rw [c1]; rfl
                      have HNE := hid (show (sm != 0) = true by simpa using b1)
                      go_wp2_with fail
                      go_meet
                      exact ⟨by first | (rw [HV.out]; done) | (rw [HV.out]; rfl) | (rw [HV.out]; exact congrArg Value.bool HNE.out), rfl⟩
                  case rest =>
                    obtain ⟨rfl, hwc⟩ := hcut
                    subst hwc
                    obtain ⟨x8, rfl⟩ : ∃ x, x = wc := ⟨_, rfl⟩
                    clear r0 r1 r2 r3 r4 r5 r6 r7 r8 r9
                    obtain ⟨r0, r1, r2, r3, r4, r5, r6, r7, r8, r9⟩ := (hr0.up HB8.out).cells
                    go_upto_if 87 with (fail)
                    go_cut [3] from 85 to 94 (fun s wx => s = .string (bs (a5 ++ if zs = true then tC else [])) ∧ Hid (Below v0.heap.size v0 wx))
                    case first =>
                      cases zs
                      · go_wp2_with fail
                        go_meet
                        exact ⟨by simp, HB8.out⟩
                      · go_upto_region 14 with (fail)
                        go_wp2_with fail
                        refine (D6.out _).mono ?_
                        rintro e w6 ⟨rfl, hb6⟩
                        have hz9 := hid (estep HB8.out hb6)
                        clear hb6
                        go_wp2_with fail
                        go_meet
                        exact ⟨by rw [HTC.out]; simp, hz9.out⟩
                    case rest =>
                      obtain ⟨rfl, HB9⟩ := hcut
                      obtain ⟨w9, rfl⟩ : ∃ x, x = wc := ⟨_, rfl⟩
                      clear r0 r1 r2 r3 r4 r5 r6 r7 r8 r9
                      obtain ⟨a6, ha6⟩ : ∃ x, a5 ++ (if zs = true then tC else []) = x := ⟨_, rfl⟩
                      have la6 : a6.length ≤ 20090 := by
                        rw [← ha6, List.length_append]
                        split
                        · omega
                        · simp; omega
                      have Ha6 := hid ha6
                      rw [ha6]
                      clear ha6 la5
                      go_wp2_with fail
                      go_returns
                      refine ⟨?_, estep HB.out HB9.out⟩
                      rw [HRN.out, ← Ha6.out, ← Ha5.out, ← Ha4.out, ← Ha3.out, ← HA2.out, ← HA1.out]
                      simp
end Go.Proofs.YtingjembjpckcaaGreatDoor
