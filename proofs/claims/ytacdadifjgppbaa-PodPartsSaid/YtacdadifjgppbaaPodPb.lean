/- Trees as the machine prints them. -/
import Derived.Test.YtacdadifjgppbaaPodPa
import Derived.Test.YtacdadifjgppbaaYes
namespace Go.Proofs.Ytacdadifjgppbaa.Pod
open Go.Eng Go.RowKit Go.Flt Lod Brk
set_option linter.unusedVariables false
set_option maxRecDepth 100000
noncomputable def rtQ (X Y Z id m L D id' m' L' D' : Int) (x y : Nat) (t u s : Int) (x' y' : Nat) (t' u' s' i : Int) : T (Ex × St) := T.ite none (decide (i ≤ Z))
  (T.ite none (Pod.okR m t u s L D x y)
    (T.ite none (bad u 0)
      (T.ite none (Pod.okR m' t' u' s' L' D' x' y')
        (T.ite none (bad u' 0)
          (T.ret
            (Ex.normal,
              {
                tmps :=
                  [(7, V.s (S.int IntKind.i64 X)), (8, V.s (S.int IntKind.i64 Y)), (9, V.s (S.int IntKind.i64 Z)),
                    (10, V.ptr 0 0), (11, V.ptr 8 0), (12, V.s (S.int IntKind.i64 (IntKind.wrap IntKind.i64 (i + 1))))],
                heap :=
                  [(0,
                      Blk.cells 78
                        [V.s (S.int IntKind.i64 id), V.ptr 1 0, V.s (S.int IntKind.i64 m), V.s (S.int IntKind.i64 t),
                          V.s (S.int IntKind.i64 u), V.s (S.int IntKind.i64 s)]),
                    (1,
                      Blk.cells 76
                        [V.s (S.int IntKind.i64 L), V.s (S.int IntKind.i64 D), V.s (S.cx FloatKind.f64 x y)]),
                    (8,
                      Blk.cells 78
                        [V.s (S.int IntKind.i64 id'), V.ptr 9 0, V.s (S.int IntKind.i64 m'), V.s (S.int IntKind.i64 t'),
                          V.s (S.int IntKind.i64 u'), V.s (S.int IntKind.i64 s')]),
                    (9,
                      Blk.cells 76
                        [V.s (S.int IntKind.i64 L'), V.s (S.int IntKind.i64 D'), V.s (S.cx FloatKind.f64 x' y')])],
                next := 1000, size := 114 }))
          (T.ite none (okB L' D' x' y')
            (T.ite none (decide (valW x' < L'))
              (T.ret
                (Ex.normal,
                  {
                    tmps :=
                      [(7, V.s (S.int IntKind.i64 X)), (8, V.s (S.int IntKind.i64 Y)), (9, V.s (S.int IntKind.i64 Z)),
                        (10, V.ptr 0 0), (11, V.ptr 8 0),
                        (12, V.s (S.int IntKind.i64 (IntKind.wrap IntKind.i64 (i + 1))))],
                    heap :=
                      [(0,
                          Blk.cells 78
                            [V.s (S.int IntKind.i64 id), V.ptr 1 0, V.s (S.int IntKind.i64 m),
                              V.s (S.int IntKind.i64 t), V.s (S.int IntKind.i64 u), V.s (S.int IntKind.i64 s)]),
                        (1,
                          Blk.cells 76
                            [V.s (S.int IntKind.i64 L), V.s (S.int IntKind.i64 D), V.s (S.cx FloatKind.f64 x y)]),
                        (8,
                          Blk.cells 78
                            [V.s (S.int IntKind.i64 id'), V.ptr 9 0, V.s (S.int IntKind.i64 m'),
                              V.s (S.int IntKind.i64 t'), V.s (S.int IntKind.i64 0),
                              V.s (S.int IntKind.i64 (s' + (valW x' + valW y') * (0 - u')))]),
                        (9,
                          Blk.cells 76
                            [V.s (S.int IntKind.i64 L'), V.s (S.int IntKind.i64 D'),
                              V.s (S.cx FloatKind.f64 (fW (valW x' + 1)) (fW (valW y')))])],
                    next := 1000, size := 114 }))
              (T.ite none (decide (valW y' < D'))
                (T.ret
                  (Ex.normal,
                    {
                      tmps :=
                        [(7, V.s (S.int IntKind.i64 X)), (8, V.s (S.int IntKind.i64 Y)), (9, V.s (S.int IntKind.i64 Z)),
                          (10, V.ptr 0 0), (11, V.ptr 8 0),
                          (12, V.s (S.int IntKind.i64 (IntKind.wrap IntKind.i64 (i + 1))))],
                      heap :=
                        [(0,
                            Blk.cells 78
                              [V.s (S.int IntKind.i64 id), V.ptr 1 0, V.s (S.int IntKind.i64 m),
                                V.s (S.int IntKind.i64 t), V.s (S.int IntKind.i64 u), V.s (S.int IntKind.i64 s)]),
                          (1,
                            Blk.cells 76
                              [V.s (S.int IntKind.i64 L), V.s (S.int IntKind.i64 D), V.s (S.cx FloatKind.f64 x y)]),
                          (8,
                            Blk.cells 78
                              [V.s (S.int IntKind.i64 id'), V.ptr 9 0, V.s (S.int IntKind.i64 m'),
                                V.s (S.int IntKind.i64 t'), V.s (S.int IntKind.i64 0),
                                V.s (S.int IntKind.i64 (s' + (valW x' + valW y') * (0 - u')))]),
                          (9,
                            Blk.cells 76
                              [V.s (S.int IntKind.i64 L'), V.s (S.int IntKind.i64 D'),
                                V.s (S.cx FloatKind.f64 (fW (valW x')) (fW (valW y' + 1)))])],
                      next := 1000, size := 114 }))
                (T.ret
                  (Ex.normal,
                    {
                      tmps :=
                        [(7, V.s (S.int IntKind.i64 X)), (8, V.s (S.int IntKind.i64 Y)), (9, V.s (S.int IntKind.i64 Z)),
                          (10, V.ptr 0 0), (11, V.ptr 8 0),
                          (12, V.s (S.int IntKind.i64 (IntKind.wrap IntKind.i64 (i + 1))))],
                      heap :=
                        [(0,
                            Blk.cells 78
                              [V.s (S.int IntKind.i64 id), V.ptr 1 0, V.s (S.int IntKind.i64 m),
                                V.s (S.int IntKind.i64 t), V.s (S.int IntKind.i64 u), V.s (S.int IntKind.i64 s)]),
                          (1,
                            Blk.cells 76
                              [V.s (S.int IntKind.i64 L), V.s (S.int IntKind.i64 D), V.s (S.cx FloatKind.f64 x y)]),
                          (8,
                            Blk.cells 78
                              [V.s (S.int IntKind.i64 id'), V.ptr 9 0, V.s (S.int IntKind.i64 m'),
                                V.s (S.int IntKind.i64 t'), V.s (S.int IntKind.i64 0),
                                V.s (S.int IntKind.i64 (s' + (valW x' + valW y') * (0 - u')))]),
                          (9,
                            Blk.cells 76
                              [V.s (S.int IntKind.i64 L'), V.s (S.int IntKind.i64 D'),
                                V.s (S.cx FloatKind.f64 x' y')])],
                      next := 1000, size := 114 }))))
            T.fail))
        T.fail)
      (T.ite none (okB L D x y)
        (T.ite none (decide (valW x < L))
          (T.ite none (Pod.okR m' t' u' s' L' D' x' y')
            (T.ite none (bad u' 0)
              (T.ret
                (Ex.normal,
                  {
                    tmps :=
                      [(7, V.s (S.int IntKind.i64 X)), (8, V.s (S.int IntKind.i64 Y)), (9, V.s (S.int IntKind.i64 Z)),
                        (10, V.ptr 0 0), (11, V.ptr 8 0),
                        (12, V.s (S.int IntKind.i64 (IntKind.wrap IntKind.i64 (i + 1))))],
                    heap :=
                      [(0,
                          Blk.cells 78
                            [V.s (S.int IntKind.i64 id), V.ptr 1 0, V.s (S.int IntKind.i64 m),
                              V.s (S.int IntKind.i64 t), V.s (S.int IntKind.i64 0),
                              V.s (S.int IntKind.i64 (s + (valW x + valW y) * (0 - u)))]),
                        (1,
                          Blk.cells 76
                            [V.s (S.int IntKind.i64 L), V.s (S.int IntKind.i64 D),
                              V.s (S.cx FloatKind.f64 (fW (valW x + 1)) (fW (valW y)))]),
                        (8,
                          Blk.cells 78
                            [V.s (S.int IntKind.i64 id'), V.ptr 9 0, V.s (S.int IntKind.i64 m'),
                              V.s (S.int IntKind.i64 t'), V.s (S.int IntKind.i64 u'), V.s (S.int IntKind.i64 s')]),
                        (9,
                          Blk.cells 76
                            [V.s (S.int IntKind.i64 L'), V.s (S.int IntKind.i64 D'), V.s (S.cx FloatKind.f64 x' y')])],
                    next := 1000, size := 114 }))
              (T.ite none (okB L' D' x' y')
                (T.ite none (decide (valW x' < L'))
                  (T.ret
                    (Ex.normal,
                      {
                        tmps :=
                          [(7, V.s (S.int IntKind.i64 X)), (8, V.s (S.int IntKind.i64 Y)),
                            (9, V.s (S.int IntKind.i64 Z)), (10, V.ptr 0 0), (11, V.ptr 8 0),
                            (12, V.s (S.int IntKind.i64 (IntKind.wrap IntKind.i64 (i + 1))))],
                        heap :=
                          [(0,
                              Blk.cells 78
                                [V.s (S.int IntKind.i64 id), V.ptr 1 0, V.s (S.int IntKind.i64 m),
                                  V.s (S.int IntKind.i64 t), V.s (S.int IntKind.i64 0),
                                  V.s (S.int IntKind.i64 (s + (valW x + valW y) * (0 - u)))]),
                            (1,
                              Blk.cells 76
                                [V.s (S.int IntKind.i64 L), V.s (S.int IntKind.i64 D),
                                  V.s (S.cx FloatKind.f64 (fW (valW x + 1)) (fW (valW y)))]),
                            (8,
                              Blk.cells 78
                                [V.s (S.int IntKind.i64 id'), V.ptr 9 0, V.s (S.int IntKind.i64 m'),
                                  V.s (S.int IntKind.i64 t'), V.s (S.int IntKind.i64 0),
                                  V.s (S.int IntKind.i64 (s' + (valW x' + valW y') * (0 - u')))]),
                            (9,
                              Blk.cells 76
                                [V.s (S.int IntKind.i64 L'), V.s (S.int IntKind.i64 D'),
                                  V.s (S.cx FloatKind.f64 (fW (valW x' + 1)) (fW (valW y')))])],
                        next := 1000, size := 114 }))
                  (T.ite none (decide (valW y' < D'))
                    (T.ret
                      (Ex.normal,
                        {
                          tmps :=
                            [(7, V.s (S.int IntKind.i64 X)), (8, V.s (S.int IntKind.i64 Y)),
                              (9, V.s (S.int IntKind.i64 Z)), (10, V.ptr 0 0), (11, V.ptr 8 0),
                              (12, V.s (S.int IntKind.i64 (IntKind.wrap IntKind.i64 (i + 1))))],
                          heap :=
                            [(0,
                                Blk.cells 78
                                  [V.s (S.int IntKind.i64 id), V.ptr 1 0, V.s (S.int IntKind.i64 m),
                                    V.s (S.int IntKind.i64 t), V.s (S.int IntKind.i64 0),
                                    V.s (S.int IntKind.i64 (s + (valW x + valW y) * (0 - u)))]),
                              (1,
                                Blk.cells 76
                                  [V.s (S.int IntKind.i64 L), V.s (S.int IntKind.i64 D),
                                    V.s (S.cx FloatKind.f64 (fW (valW x + 1)) (fW (valW y)))]),
                              (8,
                                Blk.cells 78
                                  [V.s (S.int IntKind.i64 id'), V.ptr 9 0, V.s (S.int IntKind.i64 m'),
                                    V.s (S.int IntKind.i64 t'), V.s (S.int IntKind.i64 0),
                                    V.s (S.int IntKind.i64 (s' + (valW x' + valW y') * (0 - u')))]),
                              (9,
                                Blk.cells 76
                                  [V.s (S.int IntKind.i64 L'), V.s (S.int IntKind.i64 D'),
                                    V.s (S.cx FloatKind.f64 (fW (valW x')) (fW (valW y' + 1)))])],
                          next := 1000, size := 114 }))
                    (T.ret
                      (Ex.normal,
                        {
                          tmps :=
                            [(7, V.s (S.int IntKind.i64 X)), (8, V.s (S.int IntKind.i64 Y)),
                              (9, V.s (S.int IntKind.i64 Z)), (10, V.ptr 0 0), (11, V.ptr 8 0),
                              (12, V.s (S.int IntKind.i64 (IntKind.wrap IntKind.i64 (i + 1))))],
                          heap :=
                            [(0,
                                Blk.cells 78
                                  [V.s (S.int IntKind.i64 id), V.ptr 1 0, V.s (S.int IntKind.i64 m),
                                    V.s (S.int IntKind.i64 t), V.s (S.int IntKind.i64 0),
                                    V.s (S.int IntKind.i64 (s + (valW x + valW y) * (0 - u)))]),
                              (1,
                                Blk.cells 76
                                  [V.s (S.int IntKind.i64 L), V.s (S.int IntKind.i64 D),
                                    V.s (S.cx FloatKind.f64 (fW (valW x + 1)) (fW (valW y)))]),
                              (8,
                                Blk.cells 78
                                  [V.s (S.int IntKind.i64 id'), V.ptr 9 0, V.s (S.int IntKind.i64 m'),
                                    V.s (S.int IntKind.i64 t'), V.s (S.int IntKind.i64 0),
                                    V.s (S.int IntKind.i64 (s' + (valW x' + valW y') * (0 - u')))]),
                              (9,
                                Blk.cells 76
                                  [V.s (S.int IntKind.i64 L'), V.s (S.int IntKind.i64 D'),
                                    V.s (S.cx FloatKind.f64 x' y')])],
                          next := 1000, size := 114 }))))
                T.fail))
            T.fail)
          (T.ite none (decide (valW y < D))
            (T.ite none (Pod.okR m' t' u' s' L' D' x' y')
              (T.ite none (bad u' 0)
                (T.ret
                  (Ex.normal,
                    {
                      tmps :=
                        [(7, V.s (S.int IntKind.i64 X)), (8, V.s (S.int IntKind.i64 Y)), (9, V.s (S.int IntKind.i64 Z)),
                          (10, V.ptr 0 0), (11, V.ptr 8 0),
                          (12, V.s (S.int IntKind.i64 (IntKind.wrap IntKind.i64 (i + 1))))],
                      heap :=
                        [(0,
                            Blk.cells 78
                              [V.s (S.int IntKind.i64 id), V.ptr 1 0, V.s (S.int IntKind.i64 m),
                                V.s (S.int IntKind.i64 t), V.s (S.int IntKind.i64 0),
                                V.s (S.int IntKind.i64 (s + (valW x + valW y) * (0 - u)))]),
                          (1,
                            Blk.cells 76
                              [V.s (S.int IntKind.i64 L), V.s (S.int IntKind.i64 D),
                                V.s (S.cx FloatKind.f64 (fW (valW x)) (fW (valW y + 1)))]),
                          (8,
                            Blk.cells 78
                              [V.s (S.int IntKind.i64 id'), V.ptr 9 0, V.s (S.int IntKind.i64 m'),
                                V.s (S.int IntKind.i64 t'), V.s (S.int IntKind.i64 u'), V.s (S.int IntKind.i64 s')]),
                          (9,
                            Blk.cells 76
                              [V.s (S.int IntKind.i64 L'), V.s (S.int IntKind.i64 D'),
                                V.s (S.cx FloatKind.f64 x' y')])],
                      next := 1000, size := 114 }))
                (T.ite none (okB L' D' x' y')
                  (T.ite none (decide (valW x' < L'))
                    (T.ret
                      (Ex.normal,
                        {
                          tmps :=
                            [(7, V.s (S.int IntKind.i64 X)), (8, V.s (S.int IntKind.i64 Y)),
                              (9, V.s (S.int IntKind.i64 Z)), (10, V.ptr 0 0), (11, V.ptr 8 0),
                              (12, V.s (S.int IntKind.i64 (IntKind.wrap IntKind.i64 (i + 1))))],
                          heap :=
                            [(0,
                                Blk.cells 78
                                  [V.s (S.int IntKind.i64 id), V.ptr 1 0, V.s (S.int IntKind.i64 m),
                                    V.s (S.int IntKind.i64 t), V.s (S.int IntKind.i64 0),
                                    V.s (S.int IntKind.i64 (s + (valW x + valW y) * (0 - u)))]),
                              (1,
                                Blk.cells 76
                                  [V.s (S.int IntKind.i64 L), V.s (S.int IntKind.i64 D),
                                    V.s (S.cx FloatKind.f64 (fW (valW x)) (fW (valW y + 1)))]),
                              (8,
                                Blk.cells 78
                                  [V.s (S.int IntKind.i64 id'), V.ptr 9 0, V.s (S.int IntKind.i64 m'),
                                    V.s (S.int IntKind.i64 t'), V.s (S.int IntKind.i64 0),
                                    V.s (S.int IntKind.i64 (s' + (valW x' + valW y') * (0 - u')))]),
                              (9,
                                Blk.cells 76
                                  [V.s (S.int IntKind.i64 L'), V.s (S.int IntKind.i64 D'),
                                    V.s (S.cx FloatKind.f64 (fW (valW x' + 1)) (fW (valW y')))])],
                          next := 1000, size := 114 }))
                    (T.ite none (decide (valW y' < D'))
                      (T.ret
                        (Ex.normal,
                          {
                            tmps :=
                              [(7, V.s (S.int IntKind.i64 X)), (8, V.s (S.int IntKind.i64 Y)),
                                (9, V.s (S.int IntKind.i64 Z)), (10, V.ptr 0 0), (11, V.ptr 8 0),
                                (12, V.s (S.int IntKind.i64 (IntKind.wrap IntKind.i64 (i + 1))))],
                            heap :=
                              [(0,
                                  Blk.cells 78
                                    [V.s (S.int IntKind.i64 id), V.ptr 1 0, V.s (S.int IntKind.i64 m),
                                      V.s (S.int IntKind.i64 t), V.s (S.int IntKind.i64 0),
                                      V.s (S.int IntKind.i64 (s + (valW x + valW y) * (0 - u)))]),
                                (1,
                                  Blk.cells 76
                                    [V.s (S.int IntKind.i64 L), V.s (S.int IntKind.i64 D),
                                      V.s (S.cx FloatKind.f64 (fW (valW x)) (fW (valW y + 1)))]),
                                (8,
                                  Blk.cells 78
                                    [V.s (S.int IntKind.i64 id'), V.ptr 9 0, V.s (S.int IntKind.i64 m'),
                                      V.s (S.int IntKind.i64 t'), V.s (S.int IntKind.i64 0),
                                      V.s (S.int IntKind.i64 (s' + (valW x' + valW y') * (0 - u')))]),
                                (9,
                                  Blk.cells 76
                                    [V.s (S.int IntKind.i64 L'), V.s (S.int IntKind.i64 D'),
                                      V.s (S.cx FloatKind.f64 (fW (valW x')) (fW (valW y' + 1)))])],
                            next := 1000, size := 114 }))
                      (T.ret
                        (Ex.normal,
                          {
                            tmps :=
                              [(7, V.s (S.int IntKind.i64 X)), (8, V.s (S.int IntKind.i64 Y)),
                                (9, V.s (S.int IntKind.i64 Z)), (10, V.ptr 0 0), (11, V.ptr 8 0),
                                (12, V.s (S.int IntKind.i64 (IntKind.wrap IntKind.i64 (i + 1))))],
                            heap :=
                              [(0,
                                  Blk.cells 78
                                    [V.s (S.int IntKind.i64 id), V.ptr 1 0, V.s (S.int IntKind.i64 m),
                                      V.s (S.int IntKind.i64 t), V.s (S.int IntKind.i64 0),
                                      V.s (S.int IntKind.i64 (s + (valW x + valW y) * (0 - u)))]),
                                (1,
                                  Blk.cells 76
                                    [V.s (S.int IntKind.i64 L), V.s (S.int IntKind.i64 D),
                                      V.s (S.cx FloatKind.f64 (fW (valW x)) (fW (valW y + 1)))]),
                                (8,
                                  Blk.cells 78
                                    [V.s (S.int IntKind.i64 id'), V.ptr 9 0, V.s (S.int IntKind.i64 m'),
                                      V.s (S.int IntKind.i64 t'), V.s (S.int IntKind.i64 0),
                                      V.s (S.int IntKind.i64 (s' + (valW x' + valW y') * (0 - u')))]),
                                (9,
                                  Blk.cells 76
                                    [V.s (S.int IntKind.i64 L'), V.s (S.int IntKind.i64 D'),
                                      V.s (S.cx FloatKind.f64 x' y')])],
                            next := 1000, size := 114 }))))
                  T.fail))
              T.fail)
            (T.ite none (Pod.okR m' t' u' s' L' D' x' y')
              (T.ite none (bad u' 0)
                (T.ret
                  (Ex.normal,
                    {
                      tmps :=
                        [(7, V.s (S.int IntKind.i64 X)), (8, V.s (S.int IntKind.i64 Y)), (9, V.s (S.int IntKind.i64 Z)),
                          (10, V.ptr 0 0), (11, V.ptr 8 0),
                          (12, V.s (S.int IntKind.i64 (IntKind.wrap IntKind.i64 (i + 1))))],
                      heap :=
                        [(0,
                            Blk.cells 78
                              [V.s (S.int IntKind.i64 id), V.ptr 1 0, V.s (S.int IntKind.i64 m),
                                V.s (S.int IntKind.i64 t), V.s (S.int IntKind.i64 0),
                                V.s (S.int IntKind.i64 (s + (valW x + valW y) * (0 - u)))]),
                          (1,
                            Blk.cells 76
                              [V.s (S.int IntKind.i64 L), V.s (S.int IntKind.i64 D), V.s (S.cx FloatKind.f64 x y)]),
                          (8,
                            Blk.cells 78
                              [V.s (S.int IntKind.i64 id'), V.ptr 9 0, V.s (S.int IntKind.i64 m'),
                                V.s (S.int IntKind.i64 t'), V.s (S.int IntKind.i64 u'), V.s (S.int IntKind.i64 s')]),
                          (9,
                            Blk.cells 76
                              [V.s (S.int IntKind.i64 L'), V.s (S.int IntKind.i64 D'),
                                V.s (S.cx FloatKind.f64 x' y')])],
                      next := 1000, size := 114 }))
                (T.ite none (okB L' D' x' y')
                  (T.ite none (decide (valW x' < L'))
                    (T.ret
                      (Ex.normal,
                        {
                          tmps :=
                            [(7, V.s (S.int IntKind.i64 X)), (8, V.s (S.int IntKind.i64 Y)),
                              (9, V.s (S.int IntKind.i64 Z)), (10, V.ptr 0 0), (11, V.ptr 8 0),
                              (12, V.s (S.int IntKind.i64 (IntKind.wrap IntKind.i64 (i + 1))))],
                          heap :=
                            [(0,
                                Blk.cells 78
                                  [V.s (S.int IntKind.i64 id), V.ptr 1 0, V.s (S.int IntKind.i64 m),
                                    V.s (S.int IntKind.i64 t), V.s (S.int IntKind.i64 0),
                                    V.s (S.int IntKind.i64 (s + (valW x + valW y) * (0 - u)))]),
                              (1,
                                Blk.cells 76
                                  [V.s (S.int IntKind.i64 L), V.s (S.int IntKind.i64 D), V.s (S.cx FloatKind.f64 x y)]),
                              (8,
                                Blk.cells 78
                                  [V.s (S.int IntKind.i64 id'), V.ptr 9 0, V.s (S.int IntKind.i64 m'),
                                    V.s (S.int IntKind.i64 t'), V.s (S.int IntKind.i64 0),
                                    V.s (S.int IntKind.i64 (s' + (valW x' + valW y') * (0 - u')))]),
                              (9,
                                Blk.cells 76
                                  [V.s (S.int IntKind.i64 L'), V.s (S.int IntKind.i64 D'),
                                    V.s (S.cx FloatKind.f64 (fW (valW x' + 1)) (fW (valW y')))])],
                          next := 1000, size := 114 }))
                    (T.ite none (decide (valW y' < D'))
                      (T.ret
                        (Ex.normal,
                          {
                            tmps :=
                              [(7, V.s (S.int IntKind.i64 X)), (8, V.s (S.int IntKind.i64 Y)),
                                (9, V.s (S.int IntKind.i64 Z)), (10, V.ptr 0 0), (11, V.ptr 8 0),
                                (12, V.s (S.int IntKind.i64 (IntKind.wrap IntKind.i64 (i + 1))))],
                            heap :=
                              [(0,
                                  Blk.cells 78
                                    [V.s (S.int IntKind.i64 id), V.ptr 1 0, V.s (S.int IntKind.i64 m),
                                      V.s (S.int IntKind.i64 t), V.s (S.int IntKind.i64 0),
                                      V.s (S.int IntKind.i64 (s + (valW x + valW y) * (0 - u)))]),
                                (1,
                                  Blk.cells 76
                                    [V.s (S.int IntKind.i64 L), V.s (S.int IntKind.i64 D),
                                      V.s (S.cx FloatKind.f64 x y)]),
                                (8,
                                  Blk.cells 78
                                    [V.s (S.int IntKind.i64 id'), V.ptr 9 0, V.s (S.int IntKind.i64 m'),
                                      V.s (S.int IntKind.i64 t'), V.s (S.int IntKind.i64 0),
                                      V.s (S.int IntKind.i64 (s' + (valW x' + valW y') * (0 - u')))]),
                                (9,
                                  Blk.cells 76
                                    [V.s (S.int IntKind.i64 L'), V.s (S.int IntKind.i64 D'),
                                      V.s (S.cx FloatKind.f64 (fW (valW x')) (fW (valW y' + 1)))])],
                            next := 1000, size := 114 }))
                      (T.ret
                        (Ex.normal,
                          {
                            tmps :=
                              [(7, V.s (S.int IntKind.i64 X)), (8, V.s (S.int IntKind.i64 Y)),
                                (9, V.s (S.int IntKind.i64 Z)), (10, V.ptr 0 0), (11, V.ptr 8 0),
                                (12, V.s (S.int IntKind.i64 (IntKind.wrap IntKind.i64 (i + 1))))],
                            heap :=
                              [(0,
                                  Blk.cells 78
                                    [V.s (S.int IntKind.i64 id), V.ptr 1 0, V.s (S.int IntKind.i64 m),
                                      V.s (S.int IntKind.i64 t), V.s (S.int IntKind.i64 0),
                                      V.s (S.int IntKind.i64 (s + (valW x + valW y) * (0 - u)))]),
                                (1,
                                  Blk.cells 76
                                    [V.s (S.int IntKind.i64 L), V.s (S.int IntKind.i64 D),
                                      V.s (S.cx FloatKind.f64 x y)]),
                                (8,
                                  Blk.cells 78
                                    [V.s (S.int IntKind.i64 id'), V.ptr 9 0, V.s (S.int IntKind.i64 m'),
                                      V.s (S.int IntKind.i64 t'), V.s (S.int IntKind.i64 0),
                                      V.s (S.int IntKind.i64 (s' + (valW x' + valW y') * (0 - u')))]),
                                (9,
                                  Blk.cells 76
                                    [V.s (S.int IntKind.i64 L'), V.s (S.int IntKind.i64 D'),
                                      V.s (S.cx FloatKind.f64 x' y')])],
                            next := 1000, size := 114 }))))
                  T.fail))
              T.fail)))
        T.fail))
    T.fail)
  (T.ret
    (Ex.exit 0,
      {
        tmps :=
          [(7, V.s (S.int IntKind.i64 X)), (8, V.s (S.int IntKind.i64 Y)), (9, V.s (S.int IntKind.i64 Z)),
            (10, V.ptr 0 0), (11, V.ptr 8 0), (12, V.s (S.int IntKind.i64 i))],
        heap :=
          [(0,
              Blk.cells 78
                [V.s (S.int IntKind.i64 id), V.ptr 1 0, V.s (S.int IntKind.i64 m), V.s (S.int IntKind.i64 t),
                  V.s (S.int IntKind.i64 u), V.s (S.int IntKind.i64 s)]),
            (1, Blk.cells 76 [V.s (S.int IntKind.i64 L), V.s (S.int IntKind.i64 D), V.s (S.cx FloatKind.f64 x y)]),
            (8,
              Blk.cells 78
                [V.s (S.int IntKind.i64 id'), V.ptr 9 0, V.s (S.int IntKind.i64 m'), V.s (S.int IntKind.i64 t'),
                  V.s (S.int IntKind.i64 u'), V.s (S.int IntKind.i64 s')]),
            (9, Blk.cells 76 [V.s (S.int IntKind.i64 L'), V.s (S.int IntKind.i64 D'), V.s (S.cx FloatKind.f64 x' y')])],
        next := 1000, size := 114 }))
end Go.Proofs.Ytacdadifjgppbaa.Pod
