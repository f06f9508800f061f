/- Trees as the machine prints them. -/
import Derived.Test.YtacdadifjgppbaaPodSa
import Derived.Test.YtacdadifjgppbaaYes
namespace Go.Proofs.Ytacdadifjgppbaa.Pod
open Go.Eng Go.RowKit Go.Flt Lod Brk
set_option linter.unusedVariables false
set_option maxRecDepth 100000
noncomputable def rt1 (g : List Int) (n : Nat) (k id m L D : Int) (x y : Nat) (t u s i : Int) : T (Ex × St) := T.ite none (decide (i < k))
  (T.ite none (Pod.okR m t u s L D x y)
    (T.ite none (bad u 0)
      (T.ite none (1 != 0)
        (T.ret
          (Ex.ret,
            {
              tmps :=
                [(2, V.sub 0 1 0 n), (7, V.s (S.int IntKind.i64 k)), (8, V.ptr 1 0), (9, V.s (S.int IntKind.i64 i))],
              heap :=
                [(0, Blk.lst false 3 [K.int IntKind.i64] g),
                  (1,
                    Blk.cells 78
                      [V.s (S.int IntKind.i64 id), V.ptr 2 0, V.s (S.int IntKind.i64 m), V.s (S.int IntKind.i64 t),
                        V.s (S.int IntKind.i64 u), V.s (S.int IntKind.i64 s)]),
                  (2,
                    Blk.cells 76 [V.s (S.int IntKind.i64 L), V.s (S.int IntKind.i64 D), V.s (S.cx FloatKind.f64 x y)])],
              next := 1000, size := 78 }))
        (T.ret
          (Ex.normal,
            {
              tmps :=
                [(2, V.sub 0 1 0 n), (7, V.s (S.int IntKind.i64 k)), (8, V.ptr 1 0),
                  (9, V.s (S.int IntKind.i64 (IntKind.wrap IntKind.i64 (i + 1))))],
              heap :=
                [(0, Blk.lst false 3 [K.int IntKind.i64] g),
                  (1,
                    Blk.cells 78
                      [V.s (S.int IntKind.i64 id), V.ptr 2 0, V.s (S.int IntKind.i64 m), V.s (S.int IntKind.i64 t),
                        V.s (S.int IntKind.i64 u), V.s (S.int IntKind.i64 s)]),
                  (2,
                    Blk.cells 76 [V.s (S.int IntKind.i64 L), V.s (S.int IntKind.i64 D), V.s (S.cx FloatKind.f64 x y)])],
              next := 1000, size := 78 })))
      (T.ite none (okB L D x y)
        (T.ite none (decide (valW x < L))
          (T.ite none (0 != 0)
            (T.ret
              (Ex.ret,
                {
                  tmps :=
                    [(2, V.sub 0 1 0 n), (7, V.s (S.int IntKind.i64 k)), (8, V.ptr 1 0),
                      (9, V.s (S.int IntKind.i64 i))],
                  heap :=
                    [(0, Blk.lst false 3 [K.int IntKind.i64] g),
                      (1,
                        Blk.cells 78
                          [V.s (S.int IntKind.i64 id), V.ptr 2 0, V.s (S.int IntKind.i64 m), V.s (S.int IntKind.i64 t),
                            V.s (S.int IntKind.i64 0), V.s (S.int IntKind.i64 (s + (valW x + valW y) * (0 - u)))]),
                      (2,
                        Blk.cells 76
                          [V.s (S.int IntKind.i64 L), V.s (S.int IntKind.i64 D),
                            V.s (S.cx FloatKind.f64 (fW (valW x + 1)) (fW (valW y)))])],
                  next := 1000, size := 78 }))
            (T.ret
              (Ex.normal,
                {
                  tmps :=
                    [(2, V.sub 0 1 0 n), (7, V.s (S.int IntKind.i64 k)), (8, V.ptr 1 0),
                      (9, V.s (S.int IntKind.i64 (IntKind.wrap IntKind.i64 (i + 1))))],
                  heap :=
                    [(0, Blk.lst false 3 [K.int IntKind.i64] g),
                      (1,
                        Blk.cells 78
                          [V.s (S.int IntKind.i64 id), V.ptr 2 0, V.s (S.int IntKind.i64 m), V.s (S.int IntKind.i64 t),
                            V.s (S.int IntKind.i64 0), V.s (S.int IntKind.i64 (s + (valW x + valW y) * (0 - u)))]),
                      (2,
                        Blk.cells 76
                          [V.s (S.int IntKind.i64 L), V.s (S.int IntKind.i64 D),
                            V.s (S.cx FloatKind.f64 (fW (valW x + 1)) (fW (valW y)))])],
                  next := 1000, size := 78 })))
          (T.ite none (decide (valW y < D))
            (T.ite none (0 != 0)
              (T.ret
                (Ex.ret,
                  {
                    tmps :=
                      [(2, V.sub 0 1 0 n), (7, V.s (S.int IntKind.i64 k)), (8, V.ptr 1 0),
                        (9, V.s (S.int IntKind.i64 i))],
                    heap :=
                      [(0, Blk.lst false 3 [K.int IntKind.i64] g),
                        (1,
                          Blk.cells 78
                            [V.s (S.int IntKind.i64 id), V.ptr 2 0, V.s (S.int IntKind.i64 m),
                              V.s (S.int IntKind.i64 t), V.s (S.int IntKind.i64 0),
                              V.s (S.int IntKind.i64 (s + (valW x + valW y) * (0 - u)))]),
                        (2,
                          Blk.cells 76
                            [V.s (S.int IntKind.i64 L), V.s (S.int IntKind.i64 D),
                              V.s (S.cx FloatKind.f64 (fW (valW x)) (fW (valW y + 1)))])],
                    next := 1000, size := 78 }))
              (T.ret
                (Ex.normal,
                  {
                    tmps :=
                      [(2, V.sub 0 1 0 n), (7, V.s (S.int IntKind.i64 k)), (8, V.ptr 1 0),
                        (9, V.s (S.int IntKind.i64 (IntKind.wrap IntKind.i64 (i + 1))))],
                    heap :=
                      [(0, Blk.lst false 3 [K.int IntKind.i64] g),
                        (1,
                          Blk.cells 78
                            [V.s (S.int IntKind.i64 id), V.ptr 2 0, V.s (S.int IntKind.i64 m),
                              V.s (S.int IntKind.i64 t), V.s (S.int IntKind.i64 0),
                              V.s (S.int IntKind.i64 (s + (valW x + valW y) * (0 - u)))]),
                        (2,
                          Blk.cells 76
                            [V.s (S.int IntKind.i64 L), V.s (S.int IntKind.i64 D),
                              V.s (S.cx FloatKind.f64 (fW (valW x)) (fW (valW y + 1)))])],
                    next := 1000, size := 78 })))
            (T.ite none (6 != 0)
              (T.ret
                (Ex.ret,
                  {
                    tmps :=
                      [(2, V.sub 0 1 0 n), (7, V.s (S.int IntKind.i64 k)), (8, V.ptr 1 0),
                        (9, V.s (S.int IntKind.i64 i))],
                    heap :=
                      [(0, Blk.lst false 3 [K.int IntKind.i64] g),
                        (1,
                          Blk.cells 78
                            [V.s (S.int IntKind.i64 id), V.ptr 2 0, V.s (S.int IntKind.i64 m),
                              V.s (S.int IntKind.i64 t), V.s (S.int IntKind.i64 0),
                              V.s (S.int IntKind.i64 (s + (valW x + valW y) * (0 - u)))]),
                        (2,
                          Blk.cells 76
                            [V.s (S.int IntKind.i64 L), V.s (S.int IntKind.i64 D), V.s (S.cx FloatKind.f64 x y)])],
                    next := 1000, size := 78 }))
              (T.ret
                (Ex.normal,
                  {
                    tmps :=
                      [(2, V.sub 0 1 0 n), (7, V.s (S.int IntKind.i64 k)), (8, V.ptr 1 0),
                        (9, V.s (S.int IntKind.i64 (IntKind.wrap IntKind.i64 (i + 1))))],
                    heap :=
                      [(0, Blk.lst false 3 [K.int IntKind.i64] g),
                        (1,
                          Blk.cells 78
                            [V.s (S.int IntKind.i64 id), V.ptr 2 0, V.s (S.int IntKind.i64 m),
                              V.s (S.int IntKind.i64 t), V.s (S.int IntKind.i64 0),
                              V.s (S.int IntKind.i64 (s + (valW x + valW y) * (0 - u)))]),
                        (2,
                          Blk.cells 76
                            [V.s (S.int IntKind.i64 L), V.s (S.int IntKind.i64 D), V.s (S.cx FloatKind.f64 x y)])],
                    next := 1000, size := 78 })))))
        T.fail))
    T.fail)
  (T.ret
    (Ex.exit 0,
      { tmps := [(2, V.sub 0 1 0 n), (7, V.s (S.int IntKind.i64 k)), (8, V.ptr 1 0), (9, V.s (S.int IntKind.i64 i))],
        heap :=
          [(0, Blk.lst false 3 [K.int IntKind.i64] g),
            (1,
              Blk.cells 78
                [V.s (S.int IntKind.i64 id), V.ptr 2 0, V.s (S.int IntKind.i64 m), V.s (S.int IntKind.i64 t),
                  V.s (S.int IntKind.i64 u), V.s (S.int IntKind.i64 s)]),
            (2, Blk.cells 76 [V.s (S.int IntKind.i64 L), V.s (S.int IntKind.i64 D), V.s (S.cx FloatKind.f64 x y)])],
        next := 1000, size := 78 }))
noncomputable def rt2 (g : List Int) (n : Nat) (k id m L D : Int) (x y : Nat) (t u s now i : Int) : T (Ex × St) := T.ite none (bif decide (i < (↑n : Int)) then decide (i < 30) else false)
  (T.ite none (decide (0 ≤ i) && (decide (i < (↑n : Int)) && decide (0 + Int.toNat i < List.length g)))
    (T.ite none (decide (0 + Int.toNat i < List.length g))
      (T.ite none (50 == 0) T.fail
        (T.ite none (Pod.okR m t u s L D x y)
          (T.ite none
            (bad u
              (IntKind.wrap IntKind.i64
                (now +
                  IntKind.wrap IntKind.i64
                    (Int.tmod (IntKind.wrap IntKind.u64 (gI g i))
                      50))))
            (T.ite none
              (bif
                  bif 0 != IntKind.wrap IntKind.i64 (1000 * k) then true
                  else
                    0 !=
                      IntKind.wrap IntKind.i64
                        (now +
                          IntKind.wrap IntKind.i64
                            (Int.tmod
                              (IntKind.wrap IntKind.u64 (gI g i))
                              50)) then
                true
              else 0 != 0)
              (T.ret
                (Ex.ret,
                  {
                    tmps :=
                      [(2, V.sub 0 1 0 n), (7, V.s (S.int IntKind.i64 k)), (8, V.ptr 1 0),
                        (12,
                          V.s
                            (S.int IntKind.i64
                              (IntKind.wrap IntKind.i64
                                (now +
                                  IntKind.wrap IntKind.i64
                                    (Int.tmod
                                      (IntKind.wrap IntKind.u64
                                        (gI g i))
                                      50))))),
                        (13, V.s (S.int IntKind.i64 i))],
                    heap :=
                      [(0, Blk.lst false 3 [K.int IntKind.i64] g),
                        (1,
                          Blk.cells 78
                            [V.s (S.int IntKind.i64 id), V.ptr 2 0, V.s (S.int IntKind.i64 m),
                              V.s (S.int IntKind.i64 t), V.s (S.int IntKind.i64 u), V.s (S.int IntKind.i64 s)]),
                        (2,
                          Blk.cells 76
                            [V.s (S.int IntKind.i64 L), V.s (S.int IntKind.i64 D), V.s (S.cx FloatKind.f64 x y)])],
                    next := 1000, size := 78 }))
              (T.ret
                (Ex.normal,
                  {
                    tmps :=
                      [(2, V.sub 0 1 0 n), (7, V.s (S.int IntKind.i64 k)), (8, V.ptr 1 0),
                        (12,
                          V.s
                            (S.int IntKind.i64
                              (IntKind.wrap IntKind.i64
                                (now +
                                  IntKind.wrap IntKind.i64
                                    (Int.tmod
                                      (IntKind.wrap IntKind.u64
                                        (gI g i))
                                      50))))),
                        (13, V.s (S.int IntKind.i64 (IntKind.wrap IntKind.i64 (i + 1))))],
                    heap :=
                      [(0, Blk.lst false 3 [K.int IntKind.i64] g),
                        (1,
                          Blk.cells 78
                            [V.s (S.int IntKind.i64 id), V.ptr 2 0, V.s (S.int IntKind.i64 m),
                              V.s (S.int IntKind.i64 t), V.s (S.int IntKind.i64 u), V.s (S.int IntKind.i64 s)]),
                        (2,
                          Blk.cells 76
                            [V.s (S.int IntKind.i64 L), V.s (S.int IntKind.i64 D), V.s (S.cx FloatKind.f64 x y)])],
                    next := 1000, size := 78 })))
            (T.ite none (isW x && isW y)
              (T.ite none
                (decide
                  (t <
                    IntKind.wrap IntKind.i64
                      (now +
                        IntKind.wrap IntKind.i64
                          (Int.tmod
                            (IntKind.wrap IntKind.u64 (gI g i))
                            50))))
                (T.ite none
                  (decide
                    (0 ≤
                        IntKind.wrap IntKind.i64
                          ((s +
                              (valW x + valW y) *
                                (IntKind.wrap IntKind.i64
                                    (now +
                                      IntKind.wrap IntKind.i64
                                        (Int.tmod
                                          (IntKind.wrap IntKind.u64
                                            (gI g i))
                                          50)) -
                                  u)) *
                            1000) ∧
                      IntKind.wrap IntKind.i64
                            ((s +
                                (valW x + valW y) *
                                  (IntKind.wrap IntKind.i64
                                      (now +
                                        IntKind.wrap IntKind.i64
                                          (Int.tmod
                                            (IntKind.wrap IntKind.u64
                                              (gI g i))
                                            50)) -
                                    u)) *
                              1000) ≤
                          9223372036854775807 ∧
                        0 <
                          IntKind.wrap IntKind.i64
                            (IntKind.wrap IntKind.i64
                                (now +
                                  IntKind.wrap IntKind.i64
                                    (Int.tmod
                                      (IntKind.wrap IntKind.u64
                                        (gI g i))
                                      50)) -
                              t)))
                  (T.ite none
                    (bif
                        bif
                            Int.tdiv
                                (IntKind.wrap IntKind.i64
                                  ((s +
                                      (valW x + valW y) *
                                        (IntKind.wrap IntKind.i64
                                            (now +
                                              IntKind.wrap IntKind.i64
                                                (Int.tmod
                                                  (IntKind.wrap IntKind.u64
                                                    (gI g i))
                                                  50)) -
                                          u)) *
                                    1000))
                                (IntKind.wrap IntKind.i64
                                  (IntKind.wrap IntKind.i64
                                      (now +
                                        IntKind.wrap IntKind.i64
                                          (Int.tmod
                                            (IntKind.wrap IntKind.u64
                                              (gI g i))
                                            50)) -
                                    t)) !=
                              IntKind.wrap IntKind.i64 (1000 * k) then
                          true
                        else
                          IntKind.wrap IntKind.i64
                              (IntKind.wrap IntKind.i64
                                  (now +
                                    IntKind.wrap IntKind.i64
                                      (Int.tmod
                                        (IntKind.wrap IntKind.u64
                                          (gI g i))
                                        50)) -
                                m) !=
                            IntKind.wrap IntKind.i64
                              (now +
                                IntKind.wrap IntKind.i64
                                  (Int.tmod
                                    (IntKind.wrap IntKind.u64
                                      (gI g i))
                                    50)) then
                      true
                    else id != 0)
                    (T.ret
                      (Ex.ret,
                        {
                          tmps :=
                            [(2, V.sub 0 1 0 n), (7, V.s (S.int IntKind.i64 k)), (8, V.ptr 1 0),
                              (12,
                                V.s
                                  (S.int IntKind.i64
                                    (IntKind.wrap IntKind.i64
                                      (now +
                                        IntKind.wrap IntKind.i64
                                          (Int.tmod
                                            (IntKind.wrap IntKind.u64
                                              (gI g i))
                                            50))))),
                              (13, V.s (S.int IntKind.i64 i))],
                          heap :=
                            [(0, Blk.lst false 3 [K.int IntKind.i64] g),
                              (1,
                                Blk.cells 78
                                  [V.s (S.int IntKind.i64 id), V.ptr 2 0, V.s (S.int IntKind.i64 m),
                                    V.s
                                      (S.int IntKind.i64
                                        (IntKind.wrap IntKind.i64
                                          (now +
                                            IntKind.wrap IntKind.i64
                                              (Int.tmod
                                                (IntKind.wrap IntKind.u64
                                                  (gI g i))
                                                50)))),
                                    V.s
                                      (S.int IntKind.i64
                                        (IntKind.wrap IntKind.i64
                                          (now +
                                            IntKind.wrap IntKind.i64
                                              (Int.tmod
                                                (IntKind.wrap IntKind.u64
                                                  (gI g i))
                                                50)))),
                                    V.s (S.int IntKind.i64 0)]),
                              (2,
                                Blk.cells 76
                                  [V.s (S.int IntKind.i64 L), V.s (S.int IntKind.i64 D),
                                    V.s (S.cx FloatKind.f64 x y)])],
                          next := 1000, size := 78 }))
                    (T.ret
                      (Ex.normal,
                        {
                          tmps :=
                            [(2, V.sub 0 1 0 n), (7, V.s (S.int IntKind.i64 k)), (8, V.ptr 1 0),
                              (12,
                                V.s
                                  (S.int IntKind.i64
                                    (IntKind.wrap IntKind.i64
                                      (now +
                                        IntKind.wrap IntKind.i64
                                          (Int.tmod
                                            (IntKind.wrap IntKind.u64
                                              (gI g i))
                                            50))))),
                              (13, V.s (S.int IntKind.i64 (IntKind.wrap IntKind.i64 (i + 1))))],
                          heap :=
                            [(0, Blk.lst false 3 [K.int IntKind.i64] g),
                              (1,
                                Blk.cells 78
                                  [V.s (S.int IntKind.i64 id), V.ptr 2 0, V.s (S.int IntKind.i64 m),
                                    V.s
                                      (S.int IntKind.i64
                                        (IntKind.wrap IntKind.i64
                                          (now +
                                            IntKind.wrap IntKind.i64
                                              (Int.tmod
                                                (IntKind.wrap IntKind.u64
                                                  (gI g i))
                                                50)))),
                                    V.s
                                      (S.int IntKind.i64
                                        (IntKind.wrap IntKind.i64
                                          (now +
                                            IntKind.wrap IntKind.i64
                                              (Int.tmod
                                                (IntKind.wrap IntKind.u64
                                                  (gI g i))
                                                50)))),
                                    V.s (S.int IntKind.i64 0)]),
                              (2,
                                Blk.cells 76
                                  [V.s (S.int IntKind.i64 L), V.s (S.int IntKind.i64 D),
                                    V.s (S.cx FloatKind.f64 x y)])],
                          next := 1000, size := 78 })))
                  T.fail)
                (T.ite none
                  (bif
                      bif
                          IntKind.wrap IntKind.i64 ((valW x + valW y) * 1000) !=
                            IntKind.wrap IntKind.i64 (1000 * k) then
                        true
                      else
                        IntKind.wrap IntKind.i64
                            (IntKind.wrap IntKind.i64
                                (now +
                                  IntKind.wrap IntKind.i64
                                    (Int.tmod
                                      (IntKind.wrap IntKind.u64
                                        (gI g i))
                                      50)) -
                              m) !=
                          IntKind.wrap IntKind.i64
                            (now +
                              IntKind.wrap IntKind.i64
                                (Int.tmod
                                  (IntKind.wrap IntKind.u64
                                    (gI g i))
                                  50)) then
                    true
                  else id != 0)
                  (T.ret
                    (Ex.ret,
                      {
                        tmps :=
                          [(2, V.sub 0 1 0 n), (7, V.s (S.int IntKind.i64 k)), (8, V.ptr 1 0),
                            (12,
                              V.s
                                (S.int IntKind.i64
                                  (IntKind.wrap IntKind.i64
                                    (now +
                                      IntKind.wrap IntKind.i64
                                        (Int.tmod
                                          (IntKind.wrap IntKind.u64
                                            (gI g i))
                                          50))))),
                            (13, V.s (S.int IntKind.i64 i))],
                        heap :=
                          [(0, Blk.lst false 3 [K.int IntKind.i64] g),
                            (1,
                              Blk.cells 78
                                [V.s (S.int IntKind.i64 id), V.ptr 2 0, V.s (S.int IntKind.i64 m),
                                  V.s
                                    (S.int IntKind.i64
                                      (IntKind.wrap IntKind.i64
                                        (now +
                                          IntKind.wrap IntKind.i64
                                            (Int.tmod
                                              (IntKind.wrap IntKind.u64
                                                (gI g i))
                                              50)))),
                                  V.s
                                    (S.int IntKind.i64
                                      (IntKind.wrap IntKind.i64
                                        (now +
                                          IntKind.wrap IntKind.i64
                                            (Int.tmod
                                              (IntKind.wrap IntKind.u64
                                                (gI g i))
                                              50)))),
                                  V.s (S.int IntKind.i64 0)]),
                            (2,
                              Blk.cells 76
                                [V.s (S.int IntKind.i64 L), V.s (S.int IntKind.i64 D), V.s (S.cx FloatKind.f64 x y)])],
                        next := 1000, size := 78 }))
                  (T.ret
                    (Ex.normal,
                      {
                        tmps :=
                          [(2, V.sub 0 1 0 n), (7, V.s (S.int IntKind.i64 k)), (8, V.ptr 1 0),
                            (12,
                              V.s
                                (S.int IntKind.i64
                                  (IntKind.wrap IntKind.i64
                                    (now +
                                      IntKind.wrap IntKind.i64
                                        (Int.tmod
                                          (IntKind.wrap IntKind.u64
                                            (gI g i))
                                          50))))),
                            (13, V.s (S.int IntKind.i64 (IntKind.wrap IntKind.i64 (i + 1))))],
                        heap :=
                          [(0, Blk.lst false 3 [K.int IntKind.i64] g),
                            (1,
                              Blk.cells 78
                                [V.s (S.int IntKind.i64 id), V.ptr 2 0, V.s (S.int IntKind.i64 m),
                                  V.s
                                    (S.int IntKind.i64
                                      (IntKind.wrap IntKind.i64
                                        (now +
                                          IntKind.wrap IntKind.i64
                                            (Int.tmod
                                              (IntKind.wrap IntKind.u64
                                                (gI g i))
                                              50)))),
                                  V.s
                                    (S.int IntKind.i64
                                      (IntKind.wrap IntKind.i64
                                        (now +
                                          IntKind.wrap IntKind.i64
                                            (Int.tmod
                                              (IntKind.wrap IntKind.u64
                                                (gI g i))
                                              50)))),
                                  V.s (S.int IntKind.i64 0)]),
                            (2,
                              Blk.cells 76
                                [V.s (S.int IntKind.i64 L), V.s (S.int IntKind.i64 D), V.s (S.cx FloatKind.f64 x y)])],
                        next := 1000, size := 78 }))))
              T.fail))
          T.fail))
      T.fail)
    T.fail)
  (T.ret
    (Ex.exit 2,
      {
        tmps :=
          [(2, V.sub 0 1 0 n), (7, V.s (S.int IntKind.i64 k)), (8, V.ptr 1 0), (12, V.s (S.int IntKind.i64 now)),
            (13, V.s (S.int IntKind.i64 i))],
        heap :=
          [(0, Blk.lst false 3 [K.int IntKind.i64] g),
            (1,
              Blk.cells 78
                [V.s (S.int IntKind.i64 id), V.ptr 2 0, V.s (S.int IntKind.i64 m), V.s (S.int IntKind.i64 t),
                  V.s (S.int IntKind.i64 u), V.s (S.int IntKind.i64 s)]),
            (2, Blk.cells 76 [V.s (S.int IntKind.i64 L), V.s (S.int IntKind.i64 D), V.s (S.cx FloatKind.f64 x y)])],
        next := 1000, size := 78 }))
end Go.Proofs.Ytacdadifjgppbaa.Pod
