import Derived.Test.YtmdlkoigjacipaaEd
import Derived.Test.YtmdlkoigjacipaaEe
import Derived.Test.YtmdlkoigjacipaaEf
import Derived.Test.YtmdlkoigjacipaaEg
namespace Go.Proofs.Ytmdlkoigjacipaa
set_option linter.unusedVariables false
set_option linter.unusedSimpArgs false
open Go.RowKit Go.Joins

def k11Q : List Hd := [([107], [118])]
theorem k11_m (k : Int) (n v : List UInt8) (x : Value) (w : World) (hx : HV w x k11Q) {z : Bool} (H : Hid (mE k n v [71, 69, 84] [97] [47, 97, 98] k11Q = z)) :
    Calls Try.prog 14 #[.agg #[.int .i64 k, .string (bs n), .string (bs v)], .agg #[.string (bs [71, 69, 84]), .string (bs [97]), .string (bs [47, 97, 98]), x, .string (bs [])]] w fun e w' => e = .returned (.bool z) ∧ Below w.heap.size w w' :=
  match_any _ _ _ _ x k11Q k n v w hx (by decide) H
set_option maxRecDepth 100000 in
set_option maxHeartbeats 8000000 in
theorem known11_any (w : World) : Calls Try.prog 9 #[] w fun e w' => e = .returned (.bool true) ∧ Below w.heap.size w w' := by
  have hnot := enot
  have c0 : (ByteArray.mk #[]) = bs [] := rfl
  have c1 : (ByteArray.mk #[107]) = bs [107] := rfl
  have c2 : (ByteArray.mk #[118]) = bs [118] := rfl
  have c3 : (ByteArray.mk #[71, 69, 84]) = bs [71, 69, 84] := rfl
  have c4 : (ByteArray.mk #[97]) = bs [97] := rfl
  have c5 : (ByteArray.mk #[47, 97, 98]) = bs [47, 97, 98] := rfl
  have c6 : (ByteArray.mk #[47, 97]) = bs [47, 97] := rfl
  have hb1 := estep (enew w (.cells #[.string (bs [107]), .string (bs [118])] 53)) (enew _ (.cells #[.string (bs [71, 69, 84]), .string (bs [97]), .string (bs [47, 97, 98]), .slice (some ⟨w.heap.size, 0, none⟩) 1 1, .string (bs [])] 31))
  have hq1 := BQ.new (w.alloc (.cells #[.string (bs [107]), .string (bs [118])] 53)) [71, 69, 84] [97] [47, 97, 98] (.slice (some ⟨w.heap.size, 0, none⟩) 1 1) []
  have hx0 : HV (w.alloc (.cells #[.string (bs [107]), .string (bs [118])] 53)) (.slice (some ⟨w.heap.size, 0, none⟩) 1 1) k11Q := ⟨_, _, rfl, fun k hk => by
    match k, hk with
    | 0, _ => exact ⟨w.heap.size, 0, rfl, by simp, by simp [k11Q], by simp [k11Q]⟩⟩
  have hx1 := hx0.up (enew _ (.cells #[.string (bs [71, 69, 84]), .string (bs [97]), .string (bs [47, 97, 98]), .slice (some ⟨w.heap.size, 0, none⟩) 1 1, .string (bs [])] 31))
  clear hx0
  rw [World.size_alloc] at hq1
  go_enter Try.func9, Try.ntmps9
  go_upto_region 2 with (fail)
  generalize (Value.slice (some ⟨w.heap.size, 0, none⟩) 1 1) = x at *
  generalize (w.alloc (.cells #[.string (bs [107]), .string (bs [118])] 53)).alloc (.cells #[.string (bs [71, 69, 84]), .string (bs [97]), .string (bs [47, 97, 98]), x, .string (bs [])] 31) = w0 at *
  obtain ⟨q0, q1, q2, q3, q4⟩ := hq1.cells
  go_wp2_with fail
  refine (k11_m 4 [] [47, 97] x _ hx1 (z := true) (hid (by decide +kernel))).mono ?_
  rintro r w1 ⟨rfl, hb⟩
  have hb2 := estep hb1 hb
  have hq2 := hq1.up hb
  have hx2 := hx1.up hb
  clear hb hb1 hq1 hx1 q0 q1 q2 q3 q4
  obtain ⟨q0, q1, q2, q3, q4⟩ := hq2.cells
  go_wp2_with fail
  refine (k11_m 3 [] [47, 97] x _ hx2 (z := false) (hid (by decide +kernel))).mono ?_
  rintro r w2 ⟨rfl, hb⟩
  have hb3 := estep hb2 hb
  have hq3 := hq2.up hb
  have hx3 := hx2.up hb
  clear hb hb2 hq2 hx2 q0 q1 q2 q3 q4
  obtain ⟨q0, q1, q2, q3, q4⟩ := hq3.cells
  go_wp2_with fail
  refine (k11_m 5 [107] [118] x _ hx3 (z := true) (hid (by decide +kernel))).mono ?_
  rintro r w3 ⟨rfl, hb⟩
  have hb4 := estep hb3 hb
  have hq4 := hq3.up hb
  have hx4 := hx3.up hb
  clear hb hb3 hq3 hx3 q0 q1 q2 q3 q4
  obtain ⟨q0, q1, q2, q3, q4⟩ := hq4.cells
  go_wp2_with fail
  refine (k11_m 6 [107] [] x _ hx4 (z := true) (hid (by decide +kernel))).mono ?_
  rintro r w4 ⟨rfl, hb⟩
  have hb5 := estep hb4 hb
  have hq5 := hq4.up hb
  have hx5 := hx4.up hb
  clear hb hb4 hq4 hx4 q0 q1 q2 q3 q4
  obtain ⟨q0, q1, q2, q3, q4⟩ := hq5.cells
  go_wp2_with fail
  refine (k11_m 1 [] [71, 69, 84] x _ hx5 (z := true) (hid (by decide +kernel))).mono ?_
  rintro r w5 ⟨rfl, hb⟩
  have hb6 := estep hb5 hb
  have hq6 := hq5.up hb
  have hx6 := hx5.up hb
  clear hb hb5 hq5 hx5 q0 q1 q2 q3 q4
  obtain ⟨q0, q1, q2, q3, q4⟩ := hq6.cells
  go_wp2_with fail
  refine (k11_m 2 [] [97] x _ hx6 (z := true) (hid (by decide +kernel))).mono ?_
  rintro r w6 ⟨rfl, hb⟩
  have hb7 := estep hb6 hb
  have hq7 := hq6.up hb
  have hx7 := hx6.up hb
  clear hb hb6 hq6 hx6 q0 q1 q2 q3 q4
  obtain ⟨q0, q1, q2, q3, q4⟩ := hq7.cells
  go_wp2_with fail
  refine (all_any [71, 69, 84] [97] [47, 97, 98] [] x k11Q none 0 [] _ (PX.nil _ _ _) (by simp) hx7 (by decide) (z := true) (hid rfl)).mono ?_
  rintro r w7 ⟨rfl, hb⟩
  have hb8 := estep hb7 hb
  clear hb hb7 hq7 hx7 q0 q1 q2 q3 q4
  go_wp2_with fail
  refine (pcheck_any 7 [] [] _ (by simp) (by simp) (z := 2) (hid (by decide +kernel))).mono ?_
  rintro r w8 ⟨rfl, hb⟩
  have hb9 := estep hb8 hb
  clear hb hb8
  go_wp2_with fail
  refine (pcheck_any 2 [] [97] _ (by simp) (by simp) (z := 0) (hid (by decide +kernel))).mono ?_
  rintro r w9 ⟨rfl, hb⟩
  go_wp2_with fail
  go_returns
  exact ⟨rfl, estep hb9 hb⟩
end Go.Proofs.Ytmdlkoigjacipaa
