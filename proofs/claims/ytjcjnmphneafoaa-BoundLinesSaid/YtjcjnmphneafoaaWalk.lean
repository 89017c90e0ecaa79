/-
  BoundLines: of any row of numbers.
-/
import Derived.Test.YtjcjnmphneafoaaKit
import Derived.Test.YtjcjnmphneafoaaRunA
import Derived.Test.YtjcjnmphneafoaaRunB
import Derived.Test.YtjcjnmphneafoaaRunC
import Derived.Test.YtjcjnmphneafoaaRunD
import Derived.Test.YtjcjnmphneafoaaRunE
import Derived.Test.YtjcjnmphneafoaaRunF
import Derived.Test.YtjcjnmphneafoaaRunG
import Derived.Test.YtjcjnmphneafoaaRunH
import Derived.Test.YtjcjnmphneafoaaRunI
import Derived.Test.YtjcjnmphneafoaaRunJ
import Derived.Test.YtjcjnmphneafoaaRunK
import Derived.Test.YtjcjnmphneafoaaRunL
import Derived.Test.YtjcjnmphneafoaaRunM
import Derived.Test.YtjcjnmphneafoaaRunN
import Derived.Test.YtjcjnmphneafoaaRunO
import Derived.Test.YtjcjnmphneafoaaRunP
namespace Go.Proofs.Ytjcjnmphneafoaa
open Go Go.Proofs.Ytjcjnmphneafoaa.Sx
open Go.RowKit
theorem runs_1 : ∀ b, b < 1 → runB 1 b = true
  | 0, _ => run_1_0
  | b + 1, h => absurd h (by omega)
theorem runs_2 : ∀ b, b < 2 → runB 2 b = true
  | 0, _ => run_2_0
  | 1, _ => run_2_1
  | b + 2, h => absurd h (by omega)
theorem runs_3 : ∀ b, b < 3 → runB 3 b = true
  | 0, _ => run_3_0
  | 1, _ => run_3_1
  | 2, _ => run_3_2
  | b + 3, h => absurd h (by omega)
theorem runs_4 : ∀ b, b < 4 → runB 4 b = true
  | 0, _ => run_4_0
  | 1, _ => run_4_1
  | 2, _ => run_4_2
  | 3, _ => run_4_3
  | b + 4, h => absurd h (by omega)
theorem runs_5 : ∀ b, b < 5 → runB 5 b = true
  | 0, _ => run_5_0
  | 1, _ => run_5_1
  | 2, _ => run_5_2
  | 3, _ => run_5_3
  | 4, _ => run_5_4
  | b + 5, h => absurd h (by omega)
theorem runs_6 : ∀ b, b < 6 → runB 6 b = true
  | 0, _ => run_6_0
  | 1, _ => run_6_1
  | 2, _ => run_6_2
  | 3, _ => run_6_3
  | 4, _ => run_6_4
  | 5, _ => run_6_5
  | b + 6, h => absurd h (by omega)
theorem runs_7 : ∀ b, b < 7 → runB 7 b = true
  | 0, _ => run_7_0
  | 1, _ => run_7_1
  | 2, _ => run_7_2
  | 3, _ => run_7_3
  | 4, _ => run_7_4
  | 5, _ => run_7_5
  | 6, _ => run_7_6
  | b + 7, h => absurd h (by omega)
theorem runs_8 : ∀ b, b < 8 → runB 8 b = true
  | 0, _ => run_8_0
  | 1, _ => run_8_1
  | 2, _ => run_8_2
  | 3, _ => run_8_3
  | 4, _ => run_8_4
  | 5, _ => run_8_5
  | 6, _ => run_8_6
  | 7, _ => run_8_7
  | b + 8, h => absurd h (by omega)
theorem runs_9 : ∀ b, b < 9 → runB 9 b = true
  | 0, _ => run_9_0
  | 1, _ => run_9_1
  | 2, _ => run_9_2
  | 3, _ => run_9_3
  | 4, _ => run_9_4
  | 5, _ => run_9_5
  | 6, _ => run_9_6
  | 7, _ => run_9_7
  | 8, _ => run_9_8
  | b + 9, h => absurd h (by omega)
theorem runs_10 : ∀ b, b < 10 → runB 10 b = true
  | 0, _ => run_10_0
  | 1, _ => run_10_1
  | 2, _ => run_10_2
  | 3, _ => run_10_3
  | 4, _ => run_10_4
  | 5, _ => run_10_5
  | 6, _ => run_10_6
  | 7, _ => run_10_7
  | 8, _ => run_10_8
  | 9, _ => run_10_9
  | b + 10, h => absurd h (by omega)
theorem runs_11 : ∀ b, b < 11 → runB 11 b = true
  | 0, _ => run_11_0
  | 1, _ => run_11_1
  | 2, _ => run_11_2
  | 3, _ => run_11_3
  | 4, _ => run_11_4
  | 5, _ => run_11_5
  | 6, _ => run_11_6
  | 7, _ => run_11_7
  | 8, _ => run_11_8
  | 9, _ => run_11_9
  | 10, _ => run_11_10
  | b + 11, h => absurd h (by omega)
theorem runs_12 : ∀ b, b < 12 → runB 12 b = true
  | 0, _ => run_12_0
  | 1, _ => run_12_1
  | 2, _ => run_12_2
  | 3, _ => run_12_3
  | 4, _ => run_12_4
  | 5, _ => run_12_5
  | 6, _ => run_12_6
  | 7, _ => run_12_7
  | 8, _ => run_12_8
  | 9, _ => run_12_9
  | 10, _ => run_12_10
  | 11, _ => run_12_11
  | b + 12, h => absurd h (by omega)
theorem runs_13 : ∀ b, b < 13 → runB 13 b = true
  | 0, _ => run_13_0
  | 1, _ => run_13_1
  | 2, _ => run_13_2
  | 3, _ => run_13_3
  | 4, _ => run_13_4
  | 5, _ => run_13_5
  | 6, _ => run_13_6
  | 7, _ => run_13_7
  | 8, _ => run_13_8
  | 9, _ => run_13_9
  | 10, _ => run_13_10
  | 11, _ => run_13_11
  | 12, _ => run_13_12
  | b + 13, h => absurd h (by omega)
theorem runs_14 : ∀ b, b < 14 → runB 14 b = true
  | 0, _ => run_14_0
  | 1, _ => run_14_1
  | 2, _ => run_14_2
  | 3, _ => run_14_3
  | 4, _ => run_14_4
  | 5, _ => run_14_5
  | 6, _ => run_14_6
  | 7, _ => run_14_7
  | 8, _ => run_14_8
  | 9, _ => run_14_9
  | 10, _ => run_14_10
  | 11, _ => run_14_11
  | 12, _ => run_14_12
  | 13, _ => run_14_13
  | b + 14, h => absurd h (by omega)
theorem runs_15 : ∀ b, b < 15 → runB 15 b = true
  | 0, _ => run_15_0
  | 1, _ => run_15_1
  | 2, _ => run_15_2
  | 3, _ => run_15_3
  | 4, _ => run_15_4
  | 5, _ => run_15_5
  | 6, _ => run_15_6
  | 7, _ => run_15_7
  | 8, _ => run_15_8
  | 9, _ => run_15_9
  | 10, _ => run_15_10
  | 11, _ => run_15_11
  | 12, _ => run_15_12
  | 13, _ => run_15_13
  | 14, _ => run_15_14
  | b + 15, h => absurd h (by omega)
theorem runs_16 : ∀ b, b < 16 → runB 16 b = true
  | 0, _ => run_16_0
  | 1, _ => run_16_1
  | 2, _ => run_16_2
  | 3, _ => run_16_3
  | 4, _ => run_16_4
  | 5, _ => run_16_5
  | 6, _ => run_16_6
  | 7, _ => run_16_7
  | 8, _ => run_16_8
  | 9, _ => run_16_9
  | 10, _ => run_16_10
  | 11, _ => run_16_11
  | 12, _ => run_16_12
  | 13, _ => run_16_13
  | 14, _ => run_16_14
  | 15, _ => run_16_15
  | b + 16, h => absurd h (by omega)
theorem runs_17 : ∀ b, b < 17 → runB 17 b = true
  | 0, _ => run_17_0
  | 1, _ => run_17_1
  | 2, _ => run_17_2
  | 3, _ => run_17_3
  | 4, _ => run_17_4
  | 5, _ => run_17_5
  | 6, _ => run_17_6
  | 7, _ => run_17_7
  | 8, _ => run_17_8
  | 9, _ => run_17_9
  | 10, _ => run_17_10
  | 11, _ => run_17_11
  | 12, _ => run_17_12
  | 13, _ => run_17_13
  | 14, _ => run_17_14
  | 15, _ => run_17_15
  | 16, _ => run_17_16
  | b + 17, h => absurd h (by omega)
theorem runs_18 : ∀ b, b < 18 → runB 18 b = true
  | 0, _ => run_18_0
  | 1, _ => run_18_1
  | 2, _ => run_18_2
  | 3, _ => run_18_3
  | 4, _ => run_18_4
  | 5, _ => run_18_5
  | 6, _ => run_18_6
  | 7, _ => run_18_7
  | 8, _ => run_18_8
  | 9, _ => run_18_9
  | 10, _ => run_18_10
  | 11, _ => run_18_11
  | 12, _ => run_18_12
  | 13, _ => run_18_13
  | 14, _ => run_18_14
  | 15, _ => run_18_15
  | 16, _ => run_18_16
  | 17, _ => run_18_17
  | b + 18, h => absurd h (by omega)
theorem runs_19 : ∀ b, b < 19 → runB 19 b = true
  | 0, _ => run_19_0
  | 1, _ => run_19_1
  | 2, _ => run_19_2
  | 3, _ => run_19_3
  | 4, _ => run_19_4
  | 5, _ => run_19_5
  | 6, _ => run_19_6
  | 7, _ => run_19_7
  | 8, _ => run_19_8
  | 9, _ => run_19_9
  | 10, _ => run_19_10
  | 11, _ => run_19_11
  | 12, _ => run_19_12
  | 13, _ => run_19_13
  | 14, _ => run_19_14
  | 15, _ => run_19_15
  | 16, _ => run_19_16
  | 17, _ => run_19_17
  | 18, _ => run_19_18
  | b + 19, h => absurd h (by omega)
theorem runs_20 : ∀ b, b < 20 → runB 20 b = true
  | 0, _ => run_20_0
  | 1, _ => run_20_1
  | 2, _ => run_20_2
  | 3, _ => run_20_3
  | 4, _ => run_20_4
  | 5, _ => run_20_5
  | 6, _ => run_20_6
  | 7, _ => run_20_7
  | 8, _ => run_20_8
  | 9, _ => run_20_9
  | 10, _ => run_20_10
  | 11, _ => run_20_11
  | 12, _ => run_20_12
  | 13, _ => run_20_13
  | 14, _ => run_20_14
  | 15, _ => run_20_15
  | 16, _ => run_20_16
  | 17, _ => run_20_17
  | 18, _ => run_20_18
  | 19, _ => run_20_19
  | b + 20, h => absurd h (by omega)
theorem runs_21 : ∀ b, b < 21 → runB 21 b = true
  | 0, _ => run_21_0
  | 1, _ => run_21_1
  | 2, _ => run_21_2
  | 3, _ => run_21_3
  | 4, _ => run_21_4
  | 5, _ => run_21_5
  | 6, _ => run_21_6
  | 7, _ => run_21_7
  | 8, _ => run_21_8
  | 9, _ => run_21_9
  | 10, _ => run_21_10
  | 11, _ => run_21_11
  | 12, _ => run_21_12
  | 13, _ => run_21_13
  | 14, _ => run_21_14
  | 15, _ => run_21_15
  | 16, _ => run_21_16
  | 17, _ => run_21_17
  | 18, _ => run_21_18
  | 19, _ => run_21_19
  | 20, _ => run_21_20
  | b + 21, h => absurd h (by omega)
theorem runs_22 : ∀ b, b < 22 → runB 22 b = true
  | 0, _ => run_22_0
  | 1, _ => run_22_1
  | 2, _ => run_22_2
  | 3, _ => run_22_3
  | 4, _ => run_22_4
  | 5, _ => run_22_5
  | 6, _ => run_22_6
  | 7, _ => run_22_7
  | 8, _ => run_22_8
  | 9, _ => run_22_9
  | 10, _ => run_22_10
  | 11, _ => run_22_11
  | 12, _ => run_22_12
  | 13, _ => run_22_13
  | 14, _ => run_22_14
  | 15, _ => run_22_15
  | 16, _ => run_22_16
  | 17, _ => run_22_17
  | 18, _ => run_22_18
  | 19, _ => run_22_19
  | 20, _ => run_22_20
  | 21, _ => run_22_21
  | b + 22, h => absurd h (by omega)
theorem runs_23 : ∀ b, b < 23 → runB 23 b = true
  | 0, _ => run_23_0
  | 1, _ => run_23_1
  | 2, _ => run_23_2
  | 3, _ => run_23_3
  | 4, _ => run_23_4
  | 5, _ => run_23_5
  | 6, _ => run_23_6
  | 7, _ => run_23_7
  | 8, _ => run_23_8
  | 9, _ => run_23_9
  | 10, _ => run_23_10
  | 11, _ => run_23_11
  | 12, _ => run_23_12
  | 13, _ => run_23_13
  | 14, _ => run_23_14
  | 15, _ => run_23_15
  | 16, _ => run_23_16
  | 17, _ => run_23_17
  | 18, _ => run_23_18
  | 19, _ => run_23_19
  | 20, _ => run_23_20
  | 21, _ => run_23_21
  | 22, _ => run_23_22
  | b + 23, h => absurd h (by omega)
theorem runs_24 : ∀ b, b < 24 → runB 24 b = true
  | 0, _ => run_24_0
  | 1, _ => run_24_1
  | 2, _ => run_24_2
  | 3, _ => run_24_3
  | 4, _ => run_24_4
  | 5, _ => run_24_5
  | 6, _ => run_24_6
  | 7, _ => run_24_7
  | 8, _ => run_24_8
  | 9, _ => run_24_9
  | 10, _ => run_24_10
  | 11, _ => run_24_11
  | 12, _ => run_24_12
  | 13, _ => run_24_13
  | 14, _ => run_24_14
  | 15, _ => run_24_15
  | 16, _ => run_24_16
  | 17, _ => run_24_17
  | 18, _ => run_24_18
  | 19, _ => run_24_19
  | 20, _ => run_24_20
  | 21, _ => run_24_21
  | 22, _ => run_24_22
  | 23, _ => run_24_23
  | b + 24, h => absurd h (by omega)
theorem runs_25 : ∀ b, b < 25 → runB 25 b = true
  | 0, _ => run_25_0
  | 1, _ => run_25_1
  | 2, _ => run_25_2
  | 3, _ => run_25_3
  | 4, _ => run_25_4
  | 5, _ => run_25_5
  | 6, _ => run_25_6
  | 7, _ => run_25_7
  | 8, _ => run_25_8
  | 9, _ => run_25_9
  | 10, _ => run_25_10
  | 11, _ => run_25_11
  | 12, _ => run_25_12
  | 13, _ => run_25_13
  | 14, _ => run_25_14
  | 15, _ => run_25_15
  | 16, _ => run_25_16
  | 17, _ => run_25_17
  | 18, _ => run_25_18
  | 19, _ => run_25_19
  | 20, _ => run_25_20
  | 21, _ => run_25_21
  | 22, _ => run_25_22
  | 23, _ => run_25_23
  | 24, _ => run_25_24
  | b + 25, h => absurd h (by omega)
theorem runs_26 : ∀ b, b < 26 → runB 26 b = true
  | 0, _ => run_26_0
  | 1, _ => run_26_1
  | 2, _ => run_26_2
  | 3, _ => run_26_3
  | 4, _ => run_26_4
  | 5, _ => run_26_5
  | 6, _ => run_26_6
  | 7, _ => run_26_7
  | 8, _ => run_26_8
  | 9, _ => run_26_9
  | 10, _ => run_26_10
  | 11, _ => run_26_11
  | 12, _ => run_26_12
  | 13, _ => run_26_13
  | 14, _ => run_26_14
  | 15, _ => run_26_15
  | 16, _ => run_26_16
  | 17, _ => run_26_17
  | 18, _ => run_26_18
  | 19, _ => run_26_19
  | 20, _ => run_26_20
  | 21, _ => run_26_21
  | 22, _ => run_26_22
  | 23, _ => run_26_23
  | 24, _ => run_26_24
  | 25, _ => run_26_25
  | b + 26, h => absurd h (by omega)
theorem runs_27 : ∀ b, b < 27 → runB 27 b = true
  | 0, _ => run_27_0
  | 1, _ => run_27_1
  | 2, _ => run_27_2
  | 3, _ => run_27_3
  | 4, _ => run_27_4
  | 5, _ => run_27_5
  | 6, _ => run_27_6
  | 7, _ => run_27_7
  | 8, _ => run_27_8
  | 9, _ => run_27_9
  | 10, _ => run_27_10
  | 11, _ => run_27_11
  | 12, _ => run_27_12
  | 13, _ => run_27_13
  | 14, _ => run_27_14
  | 15, _ => run_27_15
  | 16, _ => run_27_16
  | 17, _ => run_27_17
  | 18, _ => run_27_18
  | 19, _ => run_27_19
  | 20, _ => run_27_20
  | 21, _ => run_27_21
  | 22, _ => run_27_22
  | 23, _ => run_27_23
  | 24, _ => run_27_24
  | 25, _ => run_27_25
  | 26, _ => run_27_26
  | b + 27, h => absurd h (by omega)
theorem runs_28 : ∀ b, b < 28 → runB 28 b = true
  | 0, _ => run_28_0
  | 1, _ => run_28_1
  | 2, _ => run_28_2
  | 3, _ => run_28_3
  | 4, _ => run_28_4
  | 5, _ => run_28_5
  | 6, _ => run_28_6
  | 7, _ => run_28_7
  | 8, _ => run_28_8
  | 9, _ => run_28_9
  | 10, _ => run_28_10
  | 11, _ => run_28_11
  | 12, _ => run_28_12
  | 13, _ => run_28_13
  | 14, _ => run_28_14
  | 15, _ => run_28_15
  | 16, _ => run_28_16
  | 17, _ => run_28_17
  | 18, _ => run_28_18
  | 19, _ => run_28_19
  | 20, _ => run_28_20
  | 21, _ => run_28_21
  | 22, _ => run_28_22
  | 23, _ => run_28_23
  | 24, _ => run_28_24
  | 25, _ => run_28_25
  | 26, _ => run_28_26
  | 27, _ => run_28_27
  | b + 28, h => absurd h (by omega)
theorem runs_29 : ∀ b, b < 29 → runB 29 b = true
  | 0, _ => run_29_0
  | 1, _ => run_29_1
  | 2, _ => run_29_2
  | 3, _ => run_29_3
  | 4, _ => run_29_4
  | 5, _ => run_29_5
  | 6, _ => run_29_6
  | 7, _ => run_29_7
  | 8, _ => run_29_8
  | 9, _ => run_29_9
  | 10, _ => run_29_10
  | 11, _ => run_29_11
  | 12, _ => run_29_12
  | 13, _ => run_29_13
  | 14, _ => run_29_14
  | 15, _ => run_29_15
  | 16, _ => run_29_16
  | 17, _ => run_29_17
  | 18, _ => run_29_18
  | 19, _ => run_29_19
  | 20, _ => run_29_20
  | 21, _ => run_29_21
  | 22, _ => run_29_22
  | 23, _ => run_29_23
  | 24, _ => run_29_24
  | 25, _ => run_29_25
  | 26, _ => run_29_26
  | 27, _ => run_29_27
  | 28, _ => run_29_28
  | b + 29, h => absurd h (by omega)
theorem runs_30 : ∀ b, b < 30 → runB 30 b = true
  | 0, _ => run_30_0
  | 1, _ => run_30_1
  | 2, _ => run_30_2
  | 3, _ => run_30_3
  | 4, _ => run_30_4
  | 5, _ => run_30_5
  | 6, _ => run_30_6
  | 7, _ => run_30_7
  | 8, _ => run_30_8
  | 9, _ => run_30_9
  | 10, _ => run_30_10
  | 11, _ => run_30_11
  | 12, _ => run_30_12
  | 13, _ => run_30_13
  | 14, _ => run_30_14
  | 15, _ => run_30_15
  | 16, _ => run_30_16
  | 17, _ => run_30_17
  | 18, _ => run_30_18
  | 19, _ => run_30_19
  | 20, _ => run_30_20
  | 21, _ => run_30_21
  | 22, _ => run_30_22
  | 23, _ => run_30_23
  | 24, _ => run_30_24
  | 25, _ => run_30_25
  | 26, _ => run_30_26
  | 27, _ => run_30_27
  | 28, _ => run_30_28
  | 29, _ => run_30_29
  | b + 30, h => absurd h (by omega)
theorem runs : ∀ n, 1 ≤ n → n ≤ 30 → ∀ b, b < n → runB n b = true
  | 0, h, _ => absurd h (by omega)
  | 1, _, _ => runs_1
  | 2, _, _ => runs_2
  | 3, _, _ => runs_3
  | 4, _, _ => runs_4
  | 5, _, _ => runs_5
  | 6, _, _ => runs_6
  | 7, _, _ => runs_7
  | 8, _, _ => runs_8
  | 9, _, _ => runs_9
  | 10, _, _ => runs_10
  | 11, _, _ => runs_11
  | 12, _, _ => runs_12
  | 13, _, _ => runs_13
  | 14, _, _ => runs_14
  | 15, _, _ => runs_15
  | 16, _, _ => runs_16
  | 17, _, _ => runs_17
  | 18, _, _ => runs_18
  | 19, _, _ => runs_19
  | 20, _, _ => runs_20
  | 21, _, _ => runs_21
  | 22, _, _ => runs_22
  | 23, _, _ => runs_23
  | 24, _, _ => runs_24
  | 25, _, _ => runs_25
  | 26, _, _ => runs_26
  | 27, _, _ => runs_27
  | 28, _, _ => runs_28
  | 29, _, _ => runs_29
  | 30, _, _ => runs_30
  | n + 31, _, h => absurd h (by omega)
/-- the sum of the first ones -/
def pre (r : Nat → Int) : Nat → Int
  | 0 => 0
  | k + 1 => pre r k + low (r k) 50
theorem pre_bd (r : Nat → Int) : ∀ k, 0 ≤ pre r k ∧ pre r k ≤ 50 * k
  | 0 => by simp [pre]
  | k + 1 => by
    have h := pre_bd r k
    have b := low_bd (r k) 50 (by omega)
    simp only [pre]
    omega
def num (a : Int) (len : Nat) (r : Nat → Int) (n : Nat) (j : Nat) : Int :=
  if j = 0 then a else if j < 100 then len else if j < 200 then low (r (j - 100)) 50 else if j < 300 then pre r (j - 200) else if j < 400 then pre r n - pre r (j - 300) else r (j - 400)
def val (a : Option Addr) (len cap : Nat) (x : Addr) : Nat → Value
  | 0 => .slice a len cap
  | i + 1 => .pointer (some (x.add i))
def sgB (a1 : Int) (r : Nat → Int) (n : Nat) (a : Option Addr) (len cap : Nat) (x : Addr) (ob : List (Nat × Obj)) : Sg where
  n := num a1 len r n
  v := val a len cap x
  x := ob
  one i := by cases i <;> rfl
  cell i := by cases i <;> rfl
  nb i b := by cases i <;> exact fun h => nomatch h
section
variable {a1 : Int} {r : Nat → Int} {n : Nat} {a : Option Addr} {len cap : Nat} {x : Addr} {ob : List (Nat × Obj)}
theorem n100 {i : Nat} (h : i < 100) : (sgB a1 r n a len cap x ob).n (100 + i) = low (r i) 50 := by
  show num a1 len r n (100 + i) = _
  unfold num
  rw [if_neg (by omega), if_neg (by omega), if_pos (by omega), Nat.add_sub_cancel_left]
theorem n200 {i : Nat} (h : i < 100) : (sgB a1 r n a len cap x ob).n (200 + i) = pre r i := by
  show num a1 len r n (200 + i) = _
  unfold num
  rw [if_neg (by omega), if_neg (by omega), if_neg (by omega), if_pos (by omega), Nat.add_sub_cancel_left]
theorem n300 {i : Nat} (h : i < 100) : (sgB a1 r n a len cap x ob).n (300 + i) = pre r n - pre r i := by
  show num a1 len r n (300 + i) = _
  unfold num
  rw [if_neg (by omega), if_neg (by omega), if_neg (by omega), if_neg (by omega), if_pos (by omega), Nat.add_sub_cancel_left]
theorem n400 {i : Nat} : (sgB a1 r n a len cap x ob).n (400 + i) = r i := by
  show num a1 len r n (400 + i) = _
  unfold num
  rw [if_neg (by omega), if_neg (by omega), if_neg (by omega), if_neg (by omega), if_neg (by omega), Nat.add_sub_cancel_left]
theorem d100 {i : Nat} (h : i < 100) : Den (sgB a1 r n a len cap x ob) (xN (100 + i)) (low (r i) 50) := by have := den_x (σ := sgB a1 r n a len cap x ob) (100 + i); rw [n100 h] at this; exact this
theorem d400 {i : Nat} : Den (sgB a1 r n a len cap x ob) (xN (400 + i)) (r i) := by have := den_x (σ := sgB a1 r n a len cap x ob) (400 + i); rw [n400] at this; exact this
theorem d0 : Den (sgB a1 r n a len cap x ob) (xN 0) a1 := den_x 0
theorem d1 : Den (sgB a1 r n a len cap x ob) (xN 1) len := den_x 1
theorem dpre {k : Nat} (h1 : 1 ≤ k) (h : k < 100) : flatV (preV k) = true ∧ Den (sgB a1 r n a len cap x ob) (preV k) (pre r k) := by
  match k, h1 with
  | 1, _ =>
    refine ⟨rfl, ?_⟩
    have e := d100 (a1 := a1) (r := r) (n := n) (a := a) (len := len) (cap := cap) (x := x) (ob := ob) (i := 0) (by omega)
    have e2 : pre r 1 = low (r 0) 50 := by simp [pre]
    rw [e2]
    exact e
  | k + 2, _ =>
    refine ⟨rfl, ?_⟩
    have := den_x (σ := sgB a1 r n a len cap x ob) (200 + (k + 2))
    rw [n200 h] at this
    exact this
theorem dsuf {c : Nat} (hc : c < n) (h : n < 100) : flatV (sufV n c) = true ∧ Den (sgB a1 r n a len cap x ob) (sufV n c) (pre r n - pre r c) := by
  unfold sufV
  cases hb : Nat.beq (c + 1) n with
  | true =>
    have e := Nat.eq_of_beq_eq_true hb
    subst e
    refine ⟨rfl, ?_⟩
    have e2 : pre r (c + 1) - pre r c = low (r c) 50 := by simp only [pre]; omega
    rw [e2]
    exact d100 (by omega)
  | false =>
    refine ⟨rfl, ?_⟩
    have := den_x (σ := sgB a1 r n a len cap x ob) (300 + c)
    rw [n300 (by omega)] at this
    exact this
theorem orcs_ok (h1 : 1 ≤ n) (h : n ≤ 30) : ∀ e ∈ orcs n, OrcOk (sgB a1 r n a len cap x ob) e := by
  have hp := pre_bd r
  refine cons_mem ?_ (app_mem ?_ (app_mem ?_ ?_))
  · have e1 := (dsuf (a1 := a1) (r := r) (a := a) (len := len) (cap := cap) (x := x) (ob := ob) (c := 0) (n := n) (by omega) (by omega)).2
    have e0 : pre r n - pre r 0 = pre r n := by simp [pre]
    rw [e0] at e1
    exact orc_eql e1 (dpre h1 (by omega)).2
  · intro e he
    obtain ⟨i, hi, rfl⟩ := List.mem_map.1 he
    have hi := List.mem_range.1 hi
    have b := low_bd (r i) 50 (by omega)
    exact orc_add rfl (den_i 0) (d100 (by omega)) (d100 (by omega)) (by simp) (by omega) (by omega)
  · intro e he
    obtain ⟨k, hk, rfl⟩ := List.mem_map.1 he
    have hk := List.mem_range.1 hk
    have e1 := dpre (a1 := a1) (r := r) (n := n) (a := a) (len := len) (cap := cap) (x := x) (ob := ob) (k := k + 1) (by omega) (by omega)
    have e2 := dpre (a1 := a1) (r := r) (n := n) (a := a) (len := len) (cap := cap) (x := x) (ob := ob) (k := k + 2) (by omega) (by omega)
    have b := hp (k + 2)
    exact orc_add e2.1 e1.2 (d100 (by omega)) e2.2 rfl (by omega) (by omega)
  · intro e he
    obtain ⟨c, hc, rfl⟩ := List.mem_map.1 he
    have hc := List.mem_range.1 hc
    have e1 := dsuf (a1 := a1) (r := r) (n := n) (a := a) (len := len) (cap := cap) (x := x) (ob := ob) (c := c + 1) (by omega) (by omega)
    have e2 := dsuf (a1 := a1) (r := r) (n := n) (a := a) (len := len) (cap := cap) (x := x) (ob := ob) (c := c) (by omega) (by omega)
    have b1 := hp n
    have b2 := hp c
    exact orc_add e2.1 e1.2 (d100 (by omega)) e2.2 (by simp only [pre]; omega) (by omega) (by omega)
theorem pre_mono (r : Nat → Int) (c d : Nat) : pre r c ≤ pre r (c + d) := by
  induction d with
  | zero => exact Int.le_refl _
  | succ d ih =>
    have b := low_bd (r (c + d)) 50 (by omega)
    show pre r c ≤ pre r (c + d) + low (r (c + d)) 50
    omega
theorem mmos_ok (h : n ≤ 30) : ∀ e ∈ mmos n, MmoOk (sgB a1 r n a len cap x ob) e := by
  intro e he
  obtain ⟨c, hc, rfl⟩ := List.mem_map.1 he
  have hc := List.mem_range.1 hc
  have e2 := dsuf (a1 := a1) (r := r) (n := n) (a := a) (len := len) (cap := cap) (x := x) (ob := ob) (c := c) hc (by omega)
  have m := pre_mono r c (n - c)
  rw [show c + (n - c) = n by omega] at m
  exact mmo_max e2.1 e2.2 (by omega)
theorem ctrs_ok {b : Nat} (h1 : 1 ≤ n) (h : n ≤ 30) (hb : low a1 n = b) : ∀ e ∈ ctrs n b, CtrOk (sgB a1 r n a len cap x ob) e := by
  refine cons_mem awakeC_ok (cons_mem ?_ ?_)
  · exact ctr_low (a := a1) (c := b) h1 (by omega) rfl rfl d0 (den_i b) hb
  · intro e he
    obtain ⟨i, hi, rfl⟩ := List.mem_map.1 he
    have hi := List.mem_range.1 hi
    exact ctr_low (by omega) (by omega) rfl rfl d400 (d100 (by omega)) rfl
theorem vslice (E : Env) : den (sgB a1 r n a len cap x ob) E (oN 0) = .slice a len cap := den_opq E 0
theorem vptr (i : Nat) (E : Env) : den (sgB a1 r n a len cap x ob) E (oN (1 + i)) = .pointer (some (x.add i)) := by
  rw [Nat.add_comm]
  exact den_opq E (i + 1)
end
section
variable {a1 : Int} {r : Nat → Int} {n : Nat} {cap : Nat} {x : Addr} {W : World} {obj : Obj}
theorem exts_ok (hW : W.heap[x.block]? = some obj) (hc : ∀ i, i < n → W.cell? (x.add i) = some (.int .i64 (r i))) :
    ∀ e ∈ exts n, ExtOk (sgB a1 r n (some x) n cap x [(x.block, obj)]) e := by
  refine cons_mem (ext_len vslice (den_i n) rfl) (app_mem ?_ ?_)
  · intro e he
    obtain ⟨i, hi, rfl⟩ := List.mem_map.1 he
    have hi := List.mem_range.1 hi
    exact ext_idx vslice (vptr i) hi
  · intro e he
    obtain ⟨i, hi, rfl⟩ := List.mem_map.1 he
    have hi := List.mem_range.1 hi
    have eb : (x.add i).block = x.block := by unfold Addr.add; split <;> rfl
    exact ext_load (W := W) (obj := obj) (vptr i) d400 (List.mem_singleton.2 (by rw [eb])) (by rw [eb]; exact hW) (hc i hi)
end
theorem args_eq2 {a1 : Int} {r : Nat → Int} {n : Nat} {a : Option Addr} {len cap : Nat} {x : Addr} {ob : List (Nat × Obj)} :
    ([oN 0, xN 0].map (den (sgB a1 r n a len cap x ob) E00)).toArray = #[.slice a len cap, .int .i64 a1] := by
  simp only [List.map_cons, List.map_nil, vslice, d0 E00]
theorem walk (W : World) (a0 : Option Addr) (len cap : Nat) (zs : List Int) (w0 : IsRow .i64 W a0 len cap zs) (a1 : Int) (w1 : (Lit.int .i64 a1).wf = true) :
    Calls Try.prog 3 #[.slice a0 len cap, .int .i64 a1] W fun e w' => e = .returned (.bool true) ∧ Below W.heap.size W w' := by
  have _ := w1
  obtain ⟨x0, hx0⟩ : ∃ x : Addr, x = ⟨0, 0, none⟩ := ⟨_, rfl⟩
  by_cases h0 : len = 0
  · subst h0
    have h := calls_isS (tab_ok (σ := sgB a1 (fun _ => 0) 0 a0 0 cap x0 []) nil_mem nil_mem (cons_mem awakeC_ok nil_mem) (cons_mem (ext_len vslice (den_i 0) rfl) nil_mem)) none_run rfl rfl W nil_mem
    rw [args_eq2, den_bool] at h
    exact h
  · by_cases h1 : 30 < len
    · have h := calls_isS (tab_ok (σ := sgB a1 (fun _ => 0) 0 a0 len cap x0 []) (cons_mem (orc_gtr d1 (den_i 30) (by omega)) nil_mem) nil_mem (cons_mem awakeC_ok nil_mem) (cons_mem (ext_len vslice d1 rfl) nil_mem)) many_run rfl rfl W nil_mem
      rw [args_eq2, den_bool] at h
      exact h
    · rcases w0 with ⟨_, rfl, _, _⟩ | ⟨x, rfl, hlen, hcap, hz, hcell, hwf⟩
      · exact absurd rfl h0
      · have hc : ∀ i, i < len → W.cell? (x.add i) = some (.int .i64 (zs.getD i 0)) := fun i hi => hcell i (by omega)
        obtain ⟨obj, hW⟩ : ∃ obj, W.heap[x.block]? = some obj := by
          have h2 := hc 0 (by omega)
          unfold World.cell? at h2
          cases hh : W.heap[(x.add 0).block]? with
          | none => rw [hh] at h2; cases h2
          | some o => exact ⟨o, hh⟩
        obtain ⟨b, hb, e0⟩ := low_nat a1 len (by omega)
        have h := calls_isS (tab_ok (σ := sgB a1 (fun i => zs.getD i 0) len (some x) len cap x [(x.block, obj)]) (orcs_ok (by omega) (by omega)) (mmos_ok (by omega)) (ctrs_ok (by omega) (by omega) e0) (exts_ok hW hc)) (runs len (by omega) (by omega) b hb) rfl rfl W (by
          intro p hp
          obtain rfl := List.mem_singleton.1 hp
          exact hW)
        rw [args_eq2, den_bool] at h
        exact h
end Go.Proofs.Ytjcjnmphneafoaa
