/- Trees as the machine prints them. -/
import Derived.Test.YtdkebjdhpioehaaAzD
import Derived.Test.YtdkebjdhpioehaaYes
namespace Go.Proofs.Ytdkebjdhpioehaa.Conf
open Go.Eng Go.RowKit Mil
set_option linter.unusedVariables false
set_option maxRecDepth 100000
def rtM (l : List Int) (k : Nat) (n s m mo i : Int) : T (Ex × St) := T.ite none (bif decide (i < ↑k) then decide (i < 20) else false)
  (T.ite none (decide (0 ≤ i) && (decide (i < ↑k) && decide (0 + Int.toNat i < List.length l)))
    (T.ite none (decide (0 + Int.toNat i < List.length l))
      (T.ite none (1000 == 0) T.fail
        (T.ite none
          (bif
              bif
                  keepW { since := s, most := m }
                      (IntKind.wrap IntKind.i64
                        (Int.tmod
                          (IntKind.wrap IntKind.u64 (gI l i))
                          1000)) !=
                    if
                        IntKind.wrap IntKind.i64
                            (Int.tmod
                              (IntKind.wrap IntKind.u64 (gI l i))
                              1000) >
                          mo then
                      IntKind.wrap IntKind.i64
                        (Int.tmod
                          (IntKind.wrap IntKind.u64 (gI l i))
                          1000)
                    else mo then
                true
              else
                Md.most
                    (keepA { since := s, most := m }
                      (IntKind.wrap IntKind.i64
                        (Int.tmod
                          (IntKind.wrap IntKind.u64 (gI l i))
                          1000))) !=
                  if
                      IntKind.wrap IntKind.i64
                          (Int.tmod
                            (IntKind.wrap IntKind.u64 (gI l i))
                            1000) >
                        mo then
                    IntKind.wrap IntKind.i64
                      (Int.tmod
                        (IntKind.wrap IntKind.u64 (gI l i)) 1000)
                  else mo then
            true
          else
            Md.since
                (keepA { since := s, most := m }
                  (IntKind.wrap IntKind.i64
                    (Int.tmod (IntKind.wrap IntKind.u64 (gI l i))
                      1000))) !=
              10)
          (T.ret
            (Ex.ret,
              {
                tmps :=
                  [(0, V.sub 0 1 0 (PM.k { l := l, k := k, n := n })), (1, V.s (S.int IntKind.i64 n)), (4, V.ff),
                    (5, V.ptr 1 0), (6, V.ptr 41 0),
                    (7,
                      V.s
                        (S.int IntKind.i64
                          (if
                              IntKind.wrap IntKind.i64
                                  (Int.tmod
                                    (IntKind.wrap IntKind.u64
                                      (gI l i))
                                    1000) >
                                mo then
                            IntKind.wrap IntKind.i64
                              (Int.tmod
                                (IntKind.wrap IntKind.u64
                                  (gI l i))
                                1000)
                          else mo))),
                    (8, V.s (S.int IntKind.i64 i))],
                heap :=
                  [(0, Blk.lst false 3 [K.int IntKind.i64] l),
                    (1,
                      Blk.cells 23
                        (cellsOf (confV dflt))),
                    (41, Blk.cells 42 [V.s (S.int IntKind.i64 s), V.s (S.int IntKind.i64 m)])],
                next := 1000, size := 94 }))
          (T.ret
            (Ex.normal,
              {
                tmps :=
                  [(0, V.sub 0 1 0 (PM.k { l := l, k := k, n := n })), (1, V.s (S.int IntKind.i64 n)), (4, V.ff),
                    (5, V.ptr 1 0), (6, V.ptr 41 0),
                    (7,
                      V.s
                        (S.int IntKind.i64
                          (if
                              IntKind.wrap IntKind.i64
                                  (Int.tmod
                                    (IntKind.wrap IntKind.u64
                                      (gI l i))
                                    1000) >
                                mo then
                            IntKind.wrap IntKind.i64
                              (Int.tmod
                                (IntKind.wrap IntKind.u64
                                  (gI l i))
                                1000)
                          else mo))),
                    (8, V.s (S.int IntKind.i64 (IntKind.wrap IntKind.i64 (i + 1))))],
                heap :=
                  [(0, Blk.lst false 3 [K.int IntKind.i64] l),
                    (1,
                      Blk.cells 23
                        (cellsOf (confV dflt))),
                    (41,
                      Blk.cells 42
                        [V.s
                            (S.int IntKind.i64
                              (Md.since
                                (keepA { since := s, most := m }
                                  (IntKind.wrap IntKind.i64
                                    (Int.tmod
                                      (IntKind.wrap IntKind.u64
                                        (gI l i))
                                      1000))))),
                          V.s
                            (S.int IntKind.i64
                              (Md.most
                                (keepA { since := s, most := m }
                                  (IntKind.wrap IntKind.i64
                                    (Int.tmod
                                      (IntKind.wrap IntKind.u64
                                        (gI l i))
                                      1000)))))])],
                next := 1000, size := 94 }))))
      T.fail)
    T.fail)
  (T.ret
    (Ex.exit 0,
      {
        tmps :=
          [(0, V.sub 0 1 0 (PM.k { l := l, k := k, n := n })), (1, V.s (S.int IntKind.i64 n)), (4, V.ff),
            (5, V.ptr 1 0), (6, V.ptr 41 0), (7, V.s (S.int IntKind.i64 mo)), (8, V.s (S.int IntKind.i64 i))],
        heap :=
          [(0, Blk.lst false 3 [K.int IntKind.i64] l),
            (1,
              Blk.cells 23
                (cellsOf (confV dflt))),
            (41, Blk.cells 42 [V.s (S.int IntKind.i64 s), V.s (S.int IntKind.i64 m)])],
        next := 1000, size := 94 }))
def rtP (l : List Bool) (k : Nat) (r : List Int) (j : Nat) (s m la mo i : Int) : T (Ex × St) := T.ite none (bif decide (i < ↑k) then decide (i < 200) else false)
  (T.ite none (decide (0 ≤ i) && (decide (i < ↑k) && decide (0 + Int.toNat i < List.length l)))
    (T.ite none (decide (0 + Int.toNat i < List.length l))
      (T.ite none (inR s && inR i)
        (T.ite none (decide (0 ≤ i) && (decide (i < ↑k) && decide (0 + Int.toNat i < List.length l)))
          (T.ite none (decide (0 + Int.toNat i < List.length l))
            (T.ite none (gB l i)
              (T.ite none (decide (la < 0))
                (T.ite none
                  (bif
                      !decide
                            (0 ≤
                              Md.since
                                (nextA
                                  dflt
                                  { since := s, most := m } i (gB l i))) ==
                          decide (0 ≤ i) then
                    true
                  else
                    bif decide (0 ≤ i) then
                      Md.since
                          (nextA
                            dflt
                            { since := s, most := m } i (gB l i)) !=
                        i
                    else false)
                  (T.ret
                    (Ex.ret,
                      {
                        tmps :=
                          [(0, V.sub 0 1 0 (PP.k { l := l, k := k, r := r, j := j })),
                            (1, V.sub 1 1 0 (PP.j { l := l, k := k, r := r, j := j })), (4, V.ff), (5, V.ptr 2 0),
                            (6, V.ptr 18 0), (7, V.s (S.int IntKind.i64 i)), (8, V.s (S.int IntKind.i64 0)),
                            (9, V.s (S.int IntKind.i64 i))],
                        heap :=
                          [(0, Blk.lst false 4 [K.bool] l), (1, Blk.lst false 3 [K.int IntKind.i64] r),
                            (2,
                              Blk.cells 23
                                (cellsOf (confV dflt))),
                            (18,
                              Blk.cells 42
                                [V.s
                                    (S.int IntKind.i64
                                      (Md.since
                                        (nextA
                                          dflt
                                          { since := s, most := m } i
                                          (gB l i)))),
                                  V.s
                                    (S.int IntKind.i64
                                      (Md.most
                                        (nextA
                                          dflt
                                          { since := s, most := m } i
                                          (gB l i))))])],
                        next := 1000, size := 97 }))
                  (T.ite none (decide (i < ↑j))
                    (T.ite none (decide (0 ≤ i) && (decide (i < ↑j) && decide (0 + Int.toNat i < List.length r)))
                      (T.ite none (decide (0 + Int.toNat i < List.length r))
                        (T.ite none (decide (0 ≤ i))
                          (T.ite none
                            (keepW
                                {
                                  since :=
                                    Md.since
                                      (nextA
                                        dflt
                                        { since := s, most := m } i
                                        (gB l i)),
                                  most :=
                                    Md.most
                                      (nextA
                                        dflt
                                        { since := s, most := m } i
                                        (gB l i)) }
                                (gI r i) !=
                              if gI r i > 0 then
                                gI r i
                              else 0)
                            (T.ret
                              (Ex.ret,
                                {
                                  tmps :=
                                    [(0, V.sub 0 1 0 (PP.k { l := l, k := k, r := r, j := j })),
                                      (1, V.sub 1 1 0 (PP.j { l := l, k := k, r := r, j := j })), (4, V.ff),
                                      (5, V.ptr 2 0), (6, V.ptr 18 0), (7, V.s (S.int IntKind.i64 i)),
                                      (8,
                                        V.s
                                          (S.int IntKind.i64
                                            (if gI r i > 0 then
                                              gI r i
                                            else 0))),
                                      (9, V.s (S.int IntKind.i64 i))],
                                  heap :=
                                    [(0, Blk.lst false 4 [K.bool] l), (1, Blk.lst false 3 [K.int IntKind.i64] r),
                                      (2,
                                        Blk.cells 23
                                          (cellsOf (confV dflt))),
                                      (18,
                                        Blk.cells 42
                                          [V.s
                                              (S.int IntKind.i64
                                                (Md.since
                                                  (nextA
                                                    dflt
                                                    { since := s, most := m } i
                                                    (gB l i)))),
                                            V.s
                                              (S.int IntKind.i64
                                                (Md.most
                                                  (nextA
                                                    dflt
                                                    { since := s, most := m } i
                                                    (gB l i))))])],
                                  next := 1000, size := 97 }))
                            (T.ret
                              (Ex.normal,
                                {
                                  tmps :=
                                    [(0, V.sub 0 1 0 (PP.k { l := l, k := k, r := r, j := j })),
                                      (1, V.sub 1 1 0 (PP.j { l := l, k := k, r := r, j := j })), (4, V.ff),
                                      (5, V.ptr 2 0), (6, V.ptr 18 0), (7, V.s (S.int IntKind.i64 i)),
                                      (8,
                                        V.s
                                          (S.int IntKind.i64
                                            (if gI r i > 0 then
                                              gI r i
                                            else 0))),
                                      (9, V.s (S.int IntKind.i64 (IntKind.wrap IntKind.i64 (i + 1))))],
                                  heap :=
                                    [(0, Blk.lst false 4 [K.bool] l), (1, Blk.lst false 3 [K.int IntKind.i64] r),
                                      (2,
                                        Blk.cells 23
                                          (cellsOf (confV dflt))),
                                      (18,
                                        Blk.cells 42
                                          [V.s
                                              (S.int IntKind.i64
                                                (Md.since
                                                  (keepA
                                                    {
                                                      since :=
                                                        Md.since
                                                          (nextA
                                                            dflt
                                                            { since := s, most := m } i
                                                            (gB l i)),
                                                      most :=
                                                        Md.most
                                                          (nextA
                                                            dflt
                                                            { since := s, most := m } i
                                                            (gB l i)) }
                                                    (gI r i)))),
                                            V.s
                                              (S.int IntKind.i64
                                                (Md.most
                                                  (keepA
                                                    {
                                                      since :=
                                                        Md.since
                                                          (nextA
                                                            dflt
                                                            { since := s, most := m } i
                                                            (gB l i)),
                                                      most :=
                                                        Md.most
                                                          (nextA
                                                            dflt
                                                            { since := s, most := m } i
                                                            (gB l i)) }
                                                    (gI r i))))])],
                                  next := 1000, size := 97 })))
                          (T.ite none
                            (bif
                                keepW
                                    {
                                      since :=
                                        Md.since
                                          (nextA
                                            dflt
                                            { since := s, most := m } i
                                            (gB l i)),
                                      most :=
                                        Md.most
                                          (nextA
                                            dflt
                                            { since := s, most := m } i
                                            (gB l i)) }
                                    (gI r i) !=
                                  gI r i then
                              true
                            else
                              !(Md.since
                                      (keepA
                                        {
                                          since :=
                                            Md.since
                                              (nextA
                                                dflt
                                                { since := s, most := m } i
                                                (gB l i)),
                                          most :=
                                            Md.most
                                              (nextA
                                                dflt
                                                { since := s, most := m } i
                                                (gB l i)) }
                                        (gI r i)) ==
                                    Md.since
                                      (nextA
                                        dflt
                                        { since := s, most := m } i
                                        (gB l i)) &&
                                  (Md.most
                                        (keepA
                                          {
                                            since :=
                                              Md.since
                                                (nextA
                                                  dflt
                                                  { since := s, most := m } i
                                                  (gB l i)),
                                            most :=
                                              Md.most
                                                (nextA
                                                  dflt
                                                  { since := s, most := m } i
                                                  (gB l i)) }
                                          (gI r i)) ==
                                      Md.most
                                        (nextA
                                          dflt
                                          { since := s, most := m } i
                                          (gB l i)) &&
                                    true)))
                            (T.ret
                              (Ex.ret,
                                {
                                  tmps :=
                                    [(0, V.sub 0 1 0 (PP.k { l := l, k := k, r := r, j := j })),
                                      (1, V.sub 1 1 0 (PP.j { l := l, k := k, r := r, j := j })), (4, V.ff),
                                      (5, V.ptr 2 0), (6, V.ptr 18 0), (7, V.s (S.int IntKind.i64 i)),
                                      (8, V.s (S.int IntKind.i64 0)), (9, V.s (S.int IntKind.i64 i))],
                                  heap :=
                                    [(0, Blk.lst false 4 [K.bool] l), (1, Blk.lst false 3 [K.int IntKind.i64] r),
                                      (2,
                                        Blk.cells 23
                                          (cellsOf (confV dflt))),
                                      (18,
                                        Blk.cells 42
                                          [V.s
                                              (S.int IntKind.i64
                                                (Md.since
                                                  (nextA
                                                    dflt
                                                    { since := s, most := m } i
                                                    (gB l i)))),
                                            V.s
                                              (S.int IntKind.i64
                                                (Md.most
                                                  (nextA
                                                    dflt
                                                    { since := s, most := m } i
                                                    (gB l i))))])],
                                  next := 1000, size := 97 }))
                            (T.ret
                              (Ex.normal,
                                {
                                  tmps :=
                                    [(0, V.sub 0 1 0 (PP.k { l := l, k := k, r := r, j := j })),
                                      (1, V.sub 1 1 0 (PP.j { l := l, k := k, r := r, j := j })), (4, V.ff),
                                      (5, V.ptr 2 0), (6, V.ptr 18 0), (7, V.s (S.int IntKind.i64 i)),
                                      (8, V.s (S.int IntKind.i64 0)),
                                      (9, V.s (S.int IntKind.i64 (IntKind.wrap IntKind.i64 (i + 1))))],
                                  heap :=
                                    [(0, Blk.lst false 4 [K.bool] l), (1, Blk.lst false 3 [K.int IntKind.i64] r),
                                      (2,
                                        Blk.cells 23
                                          (cellsOf (confV dflt))),
                                      (18,
                                        Blk.cells 42
                                          [V.s
                                              (S.int IntKind.i64
                                                (Md.since
                                                  (keepA
                                                    {
                                                      since :=
                                                        Md.since
                                                          (nextA
                                                            dflt
                                                            { since := s, most := m } i
                                                            (gB l i)),
                                                      most :=
                                                        Md.most
                                                          (nextA
                                                            dflt
                                                            { since := s, most := m } i
                                                            (gB l i)) }
                                                    (gI r i)))),
                                            V.s
                                              (S.int IntKind.i64
                                                (Md.most
                                                  (keepA
                                                    {
                                                      since :=
                                                        Md.since
                                                          (nextA
                                                            dflt
                                                            { since := s, most := m } i
                                                            (gB l i)),
                                                      most :=
                                                        Md.most
                                                          (nextA
                                                            dflt
                                                            { since := s, most := m } i
                                                            (gB l i)) }
                                                    (gI r i))))])],
                                  next := 1000, size := 97 }))))
                        T.fail)
                      T.fail)
                    (T.ite none (decide (0 ≤ i))
                      (T.ite none
                        (keepW
                            {
                              since :=
                                Md.since
                                  (nextA
                                    dflt
                                    { since := s, most := m } i (gB l i)),
                              most :=
                                Md.most
                                  (nextA
                                    dflt
                                    { since := s, most := m } i (gB l i)) }
                            0 !=
                          if 0 > 0 then 0 else 0)
                        (T.ret
                          (Ex.ret,
                            {
                              tmps :=
                                [(0, V.sub 0 1 0 (PP.k { l := l, k := k, r := r, j := j })),
                                  (1, V.sub 1 1 0 (PP.j { l := l, k := k, r := r, j := j })), (4, V.ff), (5, V.ptr 2 0),
                                  (6, V.ptr 18 0), (7, V.s (S.int IntKind.i64 i)),
                                  (8, V.s (S.int IntKind.i64 (if 0 > 0 then 0 else 0))),
                                  (9, V.s (S.int IntKind.i64 i))],
                              heap :=
                                [(0, Blk.lst false 4 [K.bool] l), (1, Blk.lst false 3 [K.int IntKind.i64] r),
                                  (2,
                                    Blk.cells 23
                                      (cellsOf (confV dflt))),
                                  (18,
                                    Blk.cells 42
                                      [V.s
                                          (S.int IntKind.i64
                                            (Md.since
                                              (nextA
                                                dflt
                                                { since := s, most := m } i
                                                (gB l i)))),
                                        V.s
                                          (S.int IntKind.i64
                                            (Md.most
                                              (nextA
                                                dflt
                                                { since := s, most := m } i
                                                (gB l i))))])],
                              next := 1000, size := 97 }))
                        (T.ret
                          (Ex.normal,
                            {
                              tmps :=
                                [(0, V.sub 0 1 0 (PP.k { l := l, k := k, r := r, j := j })),
                                  (1, V.sub 1 1 0 (PP.j { l := l, k := k, r := r, j := j })), (4, V.ff), (5, V.ptr 2 0),
                                  (6, V.ptr 18 0), (7, V.s (S.int IntKind.i64 i)),
                                  (8, V.s (S.int IntKind.i64 (if 0 > 0 then 0 else 0))),
                                  (9, V.s (S.int IntKind.i64 (IntKind.wrap IntKind.i64 (i + 1))))],
                              heap :=
                                [(0, Blk.lst false 4 [K.bool] l), (1, Blk.lst false 3 [K.int IntKind.i64] r),
                                  (2,
                                    Blk.cells 23
                                      (cellsOf (confV dflt))),
                                  (18,
                                    Blk.cells 42
                                      [V.s
                                          (S.int IntKind.i64
                                            (Md.since
                                              (keepA
                                                {
                                                  since :=
                                                    Md.since
                                                      (nextA
                                                        dflt
                                                        { since := s, most := m } i
                                                        (gB l i)),
                                                  most :=
                                                    Md.most
                                                      (nextA
                                                        dflt
                                                        { since := s, most := m } i
                                                        (gB l i)) }
                                                0))),
                                        V.s
                                          (S.int IntKind.i64
                                            (Md.most
                                              (keepA
                                                {
                                                  since :=
                                                    Md.since
                                                      (nextA
                                                        dflt
                                                        { since := s, most := m } i
                                                        (gB l i)),
                                                  most :=
                                                    Md.most
                                                      (nextA
                                                        dflt
                                                        { since := s, most := m } i
                                                        (gB l i)) }
                                                0)))])],
                              next := 1000, size := 97 })))
                      (T.ite none
                        (bif
                            keepW
                                {
                                  since :=
                                    Md.since
                                      (nextA
                                        dflt
                                        { since := s, most := m } i
                                        (gB l i)),
                                  most :=
                                    Md.most
                                      (nextA
                                        dflt
                                        { since := s, most := m } i
                                        (gB l i)) }
                                0 !=
                              0 then
                          true
                        else
                          !(Md.since
                                  (keepA
                                    {
                                      since :=
                                        Md.since
                                          (nextA
                                            dflt
                                            { since := s, most := m } i
                                            (gB l i)),
                                      most :=
                                        Md.most
                                          (nextA
                                            dflt
                                            { since := s, most := m } i
                                            (gB l i)) }
                                    0) ==
                                Md.since
                                  (nextA
                                    dflt
                                    { since := s, most := m } i (gB l i)) &&
                              (Md.most
                                    (keepA
                                      {
                                        since :=
                                          Md.since
                                            (nextA
                                              dflt
                                              { since := s, most := m } i
                                              (gB l i)),
                                        most :=
                                          Md.most
                                            (nextA
                                              dflt
                                              { since := s, most := m } i
                                              (gB l i)) }
                                      0) ==
                                  Md.most
                                    (nextA
                                      dflt
                                      { since := s, most := m } i
                                      (gB l i)) &&
                                true)))
                        (T.ret
                          (Ex.ret,
                            {
                              tmps :=
                                [(0, V.sub 0 1 0 (PP.k { l := l, k := k, r := r, j := j })),
                                  (1, V.sub 1 1 0 (PP.j { l := l, k := k, r := r, j := j })), (4, V.ff), (5, V.ptr 2 0),
                                  (6, V.ptr 18 0), (7, V.s (S.int IntKind.i64 i)), (8, V.s (S.int IntKind.i64 0)),
                                  (9, V.s (S.int IntKind.i64 i))],
                              heap :=
                                [(0, Blk.lst false 4 [K.bool] l), (1, Blk.lst false 3 [K.int IntKind.i64] r),
                                  (2,
                                    Blk.cells 23
                                      (cellsOf (confV dflt))),
                                  (18,
                                    Blk.cells 42
                                      [V.s
                                          (S.int IntKind.i64
                                            (Md.since
                                              (nextA
                                                dflt
                                                { since := s, most := m } i
                                                (gB l i)))),
                                        V.s
                                          (S.int IntKind.i64
                                            (Md.most
                                              (nextA
                                                dflt
                                                { since := s, most := m } i
                                                (gB l i))))])],
                              next := 1000, size := 97 }))
                        (T.ret
                          (Ex.normal,
                            {
                              tmps :=
                                [(0, V.sub 0 1 0 (PP.k { l := l, k := k, r := r, j := j })),
                                  (1, V.sub 1 1 0 (PP.j { l := l, k := k, r := r, j := j })), (4, V.ff), (5, V.ptr 2 0),
                                  (6, V.ptr 18 0), (7, V.s (S.int IntKind.i64 i)), (8, V.s (S.int IntKind.i64 0)),
                                  (9, V.s (S.int IntKind.i64 (IntKind.wrap IntKind.i64 (i + 1))))],
                              heap :=
                                [(0, Blk.lst false 4 [K.bool] l), (1, Blk.lst false 3 [K.int IntKind.i64] r),
                                  (2,
                                    Blk.cells 23
                                      (cellsOf (confV dflt))),
                                  (18,
                                    Blk.cells 42
                                      [V.s
                                          (S.int IntKind.i64
                                            (Md.since
                                              (keepA
                                                {
                                                  since :=
                                                    Md.since
                                                      (nextA
                                                        dflt
                                                        { since := s, most := m } i
                                                        (gB l i)),
                                                  most :=
                                                    Md.most
                                                      (nextA
                                                        dflt
                                                        { since := s, most := m } i
                                                        (gB l i)) }
                                                0))),
                                        V.s
                                          (S.int IntKind.i64
                                            (Md.most
                                              (keepA
                                                {
                                                  since :=
                                                    Md.since
                                                      (nextA
                                                        dflt
                                                        { since := s, most := m } i
                                                        (gB l i)),
                                                  most :=
                                                    Md.most
                                                      (nextA
                                                        dflt
                                                        { since := s, most := m } i
                                                        (gB l i)) }
                                                0)))])],
                              next := 1000, size := 97 }))))))
                (T.ite none
                  (bif
                      !decide
                            (0 ≤
                              Md.since
                                (nextA
                                  dflt
                                  { since := s, most := m } i (gB l i))) ==
                          decide (0 ≤ i) then
                    true
                  else
                    bif decide (0 ≤ i) then
                      Md.since
                          (nextA
                            dflt
                            { since := s, most := m } i (gB l i)) !=
                        i
                    else false)
                  (T.ret
                    (Ex.ret,
                      {
                        tmps :=
                          [(0, V.sub 0 1 0 (PP.k { l := l, k := k, r := r, j := j })),
                            (1, V.sub 1 1 0 (PP.j { l := l, k := k, r := r, j := j })), (4, V.ff), (5, V.ptr 2 0),
                            (6, V.ptr 18 0), (7, V.s (S.int IntKind.i64 i)), (8, V.s (S.int IntKind.i64 mo)),
                            (9, V.s (S.int IntKind.i64 i))],
                        heap :=
                          [(0, Blk.lst false 4 [K.bool] l), (1, Blk.lst false 3 [K.int IntKind.i64] r),
                            (2,
                              Blk.cells 23
                                (cellsOf (confV dflt))),
                            (18,
                              Blk.cells 42
                                [V.s
                                    (S.int IntKind.i64
                                      (Md.since
                                        (nextA
                                          dflt
                                          { since := s, most := m } i
                                          (gB l i)))),
                                  V.s
                                    (S.int IntKind.i64
                                      (Md.most
                                        (nextA
                                          dflt
                                          { since := s, most := m } i
                                          (gB l i))))])],
                        next := 1000, size := 97 }))
                  (T.ite none (decide (i < ↑j))
                    (T.ite none (decide (0 ≤ i) && (decide (i < ↑j) && decide (0 + Int.toNat i < List.length r)))
                      (T.ite none (decide (0 + Int.toNat i < List.length r))
                        (T.ite none (decide (0 ≤ i))
                          (T.ite none
                            (keepW
                                {
                                  since :=
                                    Md.since
                                      (nextA
                                        dflt
                                        { since := s, most := m } i
                                        (gB l i)),
                                  most :=
                                    Md.most
                                      (nextA
                                        dflt
                                        { since := s, most := m } i
                                        (gB l i)) }
                                (gI r i) !=
                              if gI r i > mo then
                                gI r i
                              else mo)
                            (T.ret
                              (Ex.ret,
                                {
                                  tmps :=
                                    [(0, V.sub 0 1 0 (PP.k { l := l, k := k, r := r, j := j })),
                                      (1, V.sub 1 1 0 (PP.j { l := l, k := k, r := r, j := j })), (4, V.ff),
                                      (5, V.ptr 2 0), (6, V.ptr 18 0), (7, V.s (S.int IntKind.i64 i)),
                                      (8,
                                        V.s
                                          (S.int IntKind.i64
                                            (if gI r i > mo then
                                              gI r i
                                            else mo))),
                                      (9, V.s (S.int IntKind.i64 i))],
                                  heap :=
                                    [(0, Blk.lst false 4 [K.bool] l), (1, Blk.lst false 3 [K.int IntKind.i64] r),
                                      (2,
                                        Blk.cells 23
                                          (cellsOf (confV dflt))),
                                      (18,
                                        Blk.cells 42
                                          [V.s
                                              (S.int IntKind.i64
                                                (Md.since
                                                  (nextA
                                                    dflt
                                                    { since := s, most := m } i
                                                    (gB l i)))),
                                            V.s
                                              (S.int IntKind.i64
                                                (Md.most
                                                  (nextA
                                                    dflt
                                                    { since := s, most := m } i
                                                    (gB l i))))])],
                                  next := 1000, size := 97 }))
                            (T.ret
                              (Ex.normal,
                                {
                                  tmps :=
                                    [(0, V.sub 0 1 0 (PP.k { l := l, k := k, r := r, j := j })),
                                      (1, V.sub 1 1 0 (PP.j { l := l, k := k, r := r, j := j })), (4, V.ff),
                                      (5, V.ptr 2 0), (6, V.ptr 18 0), (7, V.s (S.int IntKind.i64 i)),
                                      (8,
                                        V.s
                                          (S.int IntKind.i64
                                            (if gI r i > mo then
                                              gI r i
                                            else mo))),
                                      (9, V.s (S.int IntKind.i64 (IntKind.wrap IntKind.i64 (i + 1))))],
                                  heap :=
                                    [(0, Blk.lst false 4 [K.bool] l), (1, Blk.lst false 3 [K.int IntKind.i64] r),
                                      (2,
                                        Blk.cells 23
                                          (cellsOf (confV dflt))),
                                      (18,
                                        Blk.cells 42
                                          [V.s
                                              (S.int IntKind.i64
                                                (Md.since
                                                  (keepA
                                                    {
                                                      since :=
                                                        Md.since
                                                          (nextA
                                                            dflt
                                                            { since := s, most := m } i
                                                            (gB l i)),
                                                      most :=
                                                        Md.most
                                                          (nextA
                                                            dflt
                                                            { since := s, most := m } i
                                                            (gB l i)) }
                                                    (gI r i)))),
                                            V.s
                                              (S.int IntKind.i64
                                                (Md.most
                                                  (keepA
                                                    {
                                                      since :=
                                                        Md.since
                                                          (nextA
                                                            dflt
                                                            { since := s, most := m } i
                                                            (gB l i)),
                                                      most :=
                                                        Md.most
                                                          (nextA
                                                            dflt
                                                            { since := s, most := m } i
                                                            (gB l i)) }
                                                    (gI r i))))])],
                                  next := 1000, size := 97 })))
                          (T.ite none
                            (bif
                                keepW
                                    {
                                      since :=
                                        Md.since
                                          (nextA
                                            dflt
                                            { since := s, most := m } i
                                            (gB l i)),
                                      most :=
                                        Md.most
                                          (nextA
                                            dflt
                                            { since := s, most := m } i
                                            (gB l i)) }
                                    (gI r i) !=
                                  gI r i then
                              true
                            else
                              !(Md.since
                                      (keepA
                                        {
                                          since :=
                                            Md.since
                                              (nextA
                                                dflt
                                                { since := s, most := m } i
                                                (gB l i)),
                                          most :=
                                            Md.most
                                              (nextA
                                                dflt
                                                { since := s, most := m } i
                                                (gB l i)) }
                                        (gI r i)) ==
                                    Md.since
                                      (nextA
                                        dflt
                                        { since := s, most := m } i
                                        (gB l i)) &&
                                  (Md.most
                                        (keepA
                                          {
                                            since :=
                                              Md.since
                                                (nextA
                                                  dflt
                                                  { since := s, most := m } i
                                                  (gB l i)),
                                            most :=
                                              Md.most
                                                (nextA
                                                  dflt
                                                  { since := s, most := m } i
                                                  (gB l i)) }
                                          (gI r i)) ==
                                      Md.most
                                        (nextA
                                          dflt
                                          { since := s, most := m } i
                                          (gB l i)) &&
                                    true)))
                            (T.ret
                              (Ex.ret,
                                {
                                  tmps :=
                                    [(0, V.sub 0 1 0 (PP.k { l := l, k := k, r := r, j := j })),
                                      (1, V.sub 1 1 0 (PP.j { l := l, k := k, r := r, j := j })), (4, V.ff),
                                      (5, V.ptr 2 0), (6, V.ptr 18 0), (7, V.s (S.int IntKind.i64 i)),
                                      (8, V.s (S.int IntKind.i64 mo)), (9, V.s (S.int IntKind.i64 i))],
                                  heap :=
                                    [(0, Blk.lst false 4 [K.bool] l), (1, Blk.lst false 3 [K.int IntKind.i64] r),
                                      (2,
                                        Blk.cells 23
                                          (cellsOf (confV dflt))),
                                      (18,
                                        Blk.cells 42
                                          [V.s
                                              (S.int IntKind.i64
                                                (Md.since
                                                  (nextA
                                                    dflt
                                                    { since := s, most := m } i
                                                    (gB l i)))),
                                            V.s
                                              (S.int IntKind.i64
                                                (Md.most
                                                  (nextA
                                                    dflt
                                                    { since := s, most := m } i
                                                    (gB l i))))])],
                                  next := 1000, size := 97 }))
                            (T.ret
                              (Ex.normal,
                                {
                                  tmps :=
                                    [(0, V.sub 0 1 0 (PP.k { l := l, k := k, r := r, j := j })),
                                      (1, V.sub 1 1 0 (PP.j { l := l, k := k, r := r, j := j })), (4, V.ff),
                                      (5, V.ptr 2 0), (6, V.ptr 18 0), (7, V.s (S.int IntKind.i64 i)),
                                      (8, V.s (S.int IntKind.i64 mo)),
                                      (9, V.s (S.int IntKind.i64 (IntKind.wrap IntKind.i64 (i + 1))))],
                                  heap :=
                                    [(0, Blk.lst false 4 [K.bool] l), (1, Blk.lst false 3 [K.int IntKind.i64] r),
                                      (2,
                                        Blk.cells 23
                                          (cellsOf (confV dflt))),
                                      (18,
                                        Blk.cells 42
                                          [V.s
                                              (S.int IntKind.i64
                                                (Md.since
                                                  (keepA
                                                    {
                                                      since :=
                                                        Md.since
                                                          (nextA
                                                            dflt
                                                            { since := s, most := m } i
                                                            (gB l i)),
                                                      most :=
                                                        Md.most
                                                          (nextA
                                                            dflt
                                                            { since := s, most := m } i
                                                            (gB l i)) }
                                                    (gI r i)))),
                                            V.s
                                              (S.int IntKind.i64
                                                (Md.most
                                                  (keepA
                                                    {
                                                      since :=
                                                        Md.since
                                                          (nextA
                                                            dflt
                                                            { since := s, most := m } i
                                                            (gB l i)),
                                                      most :=
                                                        Md.most
                                                          (nextA
                                                            dflt
                                                            { since := s, most := m } i
                                                            (gB l i)) }
                                                    (gI r i))))])],
                                  next := 1000, size := 97 }))))
                        T.fail)
                      T.fail)
                    (T.ite none (decide (0 ≤ i))
                      (T.ite none
                        (keepW
                            {
                              since :=
                                Md.since
                                  (nextA
                                    dflt
                                    { since := s, most := m } i (gB l i)),
                              most :=
                                Md.most
                                  (nextA
                                    dflt
                                    { since := s, most := m } i (gB l i)) }
                            0 !=
                          if 0 > mo then 0 else mo)
                        (T.ret
                          (Ex.ret,
                            {
                              tmps :=
                                [(0, V.sub 0 1 0 (PP.k { l := l, k := k, r := r, j := j })),
                                  (1, V.sub 1 1 0 (PP.j { l := l, k := k, r := r, j := j })), (4, V.ff), (5, V.ptr 2 0),
                                  (6, V.ptr 18 0), (7, V.s (S.int IntKind.i64 i)),
                                  (8, V.s (S.int IntKind.i64 (if 0 > mo then 0 else mo))),
                                  (9, V.s (S.int IntKind.i64 i))],
                              heap :=
                                [(0, Blk.lst false 4 [K.bool] l), (1, Blk.lst false 3 [K.int IntKind.i64] r),
                                  (2,
                                    Blk.cells 23
                                      (cellsOf (confV dflt))),
                                  (18,
                                    Blk.cells 42
                                      [V.s
                                          (S.int IntKind.i64
                                            (Md.since
                                              (nextA
                                                dflt
                                                { since := s, most := m } i
                                                (gB l i)))),
                                        V.s
                                          (S.int IntKind.i64
                                            (Md.most
                                              (nextA
                                                dflt
                                                { since := s, most := m } i
                                                (gB l i))))])],
                              next := 1000, size := 97 }))
                        (T.ret
                          (Ex.normal,
                            {
                              tmps :=
                                [(0, V.sub 0 1 0 (PP.k { l := l, k := k, r := r, j := j })),
                                  (1, V.sub 1 1 0 (PP.j { l := l, k := k, r := r, j := j })), (4, V.ff), (5, V.ptr 2 0),
                                  (6, V.ptr 18 0), (7, V.s (S.int IntKind.i64 i)),
                                  (8, V.s (S.int IntKind.i64 (if 0 > mo then 0 else mo))),
                                  (9, V.s (S.int IntKind.i64 (IntKind.wrap IntKind.i64 (i + 1))))],
                              heap :=
                                [(0, Blk.lst false 4 [K.bool] l), (1, Blk.lst false 3 [K.int IntKind.i64] r),
                                  (2,
                                    Blk.cells 23
                                      (cellsOf (confV dflt))),
                                  (18,
                                    Blk.cells 42
                                      [V.s
                                          (S.int IntKind.i64
                                            (Md.since
                                              (keepA
                                                {
                                                  since :=
                                                    Md.since
                                                      (nextA
                                                        dflt
                                                        { since := s, most := m } i
                                                        (gB l i)),
                                                  most :=
                                                    Md.most
                                                      (nextA
                                                        dflt
                                                        { since := s, most := m } i
                                                        (gB l i)) }
                                                0))),
                                        V.s
                                          (S.int IntKind.i64
                                            (Md.most
                                              (keepA
                                                {
                                                  since :=
                                                    Md.since
                                                      (nextA
                                                        dflt
                                                        { since := s, most := m } i
                                                        (gB l i)),
                                                  most :=
                                                    Md.most
                                                      (nextA
                                                        dflt
                                                        { since := s, most := m } i
                                                        (gB l i)) }
                                                0)))])],
                              next := 1000, size := 97 })))
                      (T.ite none
                        (bif
                            keepW
                                {
                                  since :=
                                    Md.since
                                      (nextA
                                        dflt
                                        { since := s, most := m } i
                                        (gB l i)),
                                  most :=
                                    Md.most
                                      (nextA
                                        dflt
                                        { since := s, most := m } i
                                        (gB l i)) }
                                0 !=
                              0 then
                          true
                        else
                          !(Md.since
                                  (keepA
                                    {
                                      since :=
                                        Md.since
                                          (nextA
                                            dflt
                                            { since := s, most := m } i
                                            (gB l i)),
                                      most :=
                                        Md.most
                                          (nextA
                                            dflt
                                            { since := s, most := m } i
                                            (gB l i)) }
                                    0) ==
                                Md.since
                                  (nextA
                                    dflt
                                    { since := s, most := m } i (gB l i)) &&
                              (Md.most
                                    (keepA
                                      {
                                        since :=
                                          Md.since
                                            (nextA
                                              dflt
                                              { since := s, most := m } i
                                              (gB l i)),
                                        most :=
                                          Md.most
                                            (nextA
                                              dflt
                                              { since := s, most := m } i
                                              (gB l i)) }
                                      0) ==
                                  Md.most
                                    (nextA
                                      dflt
                                      { since := s, most := m } i
                                      (gB l i)) &&
                                true)))
                        (T.ret
                          (Ex.ret,
                            {
                              tmps :=
                                [(0, V.sub 0 1 0 (PP.k { l := l, k := k, r := r, j := j })),
                                  (1, V.sub 1 1 0 (PP.j { l := l, k := k, r := r, j := j })), (4, V.ff), (5, V.ptr 2 0),
                                  (6, V.ptr 18 0), (7, V.s (S.int IntKind.i64 i)), (8, V.s (S.int IntKind.i64 mo)),
                                  (9, V.s (S.int IntKind.i64 i))],
                              heap :=
                                [(0, Blk.lst false 4 [K.bool] l), (1, Blk.lst false 3 [K.int IntKind.i64] r),
                                  (2,
                                    Blk.cells 23
                                      (cellsOf (confV dflt))),
                                  (18,
                                    Blk.cells 42
                                      [V.s
                                          (S.int IntKind.i64
                                            (Md.since
                                              (nextA
                                                dflt
                                                { since := s, most := m } i
                                                (gB l i)))),
                                        V.s
                                          (S.int IntKind.i64
                                            (Md.most
                                              (nextA
                                                dflt
                                                { since := s, most := m } i
                                                (gB l i))))])],
                              next := 1000, size := 97 }))
                        (T.ret
                          (Ex.normal,
                            {
                              tmps :=
                                [(0, V.sub 0 1 0 (PP.k { l := l, k := k, r := r, j := j })),
                                  (1, V.sub 1 1 0 (PP.j { l := l, k := k, r := r, j := j })), (4, V.ff), (5, V.ptr 2 0),
                                  (6, V.ptr 18 0), (7, V.s (S.int IntKind.i64 i)), (8, V.s (S.int IntKind.i64 mo)),
                                  (9, V.s (S.int IntKind.i64 (IntKind.wrap IntKind.i64 (i + 1))))],
                              heap :=
                                [(0, Blk.lst false 4 [K.bool] l), (1, Blk.lst false 3 [K.int IntKind.i64] r),
                                  (2,
                                    Blk.cells 23
                                      (cellsOf (confV dflt))),
                                  (18,
                                    Blk.cells 42
                                      [V.s
                                          (S.int IntKind.i64
                                            (Md.since
                                              (keepA
                                                {
                                                  since :=
                                                    Md.since
                                                      (nextA
                                                        dflt
                                                        { since := s, most := m } i
                                                        (gB l i)),
                                                  most :=
                                                    Md.most
                                                      (nextA
                                                        dflt
                                                        { since := s, most := m } i
                                                        (gB l i)) }
                                                0))),
                                        V.s
                                          (S.int IntKind.i64
                                            (Md.most
                                              (keepA
                                                {
                                                  since :=
                                                    Md.since
                                                      (nextA
                                                        dflt
                                                        { since := s, most := m } i
                                                        (gB l i)),
                                                  most :=
                                                    Md.most
                                                      (nextA
                                                        dflt
                                                        { since := s, most := m } i
                                                        (gB l i)) }
                                                0)))])],
                              next := 1000, size := 97 })))))))
              (T.ite none (bif decide (0 ≤ la) then decide (60 ≤ IntKind.wrap IntKind.i64 (i - la)) else false)
                (T.ite none
                  (bif
                      !decide
                            (0 ≤
                              Md.since
                                (nextA
                                  dflt
                                  { since := s, most := m } i (gB l i))) ==
                          false then
                    true
                  else false)
                  (T.ret
                    (Ex.ret,
                      {
                        tmps :=
                          [(0, V.sub 0 1 0 (PP.k { l := l, k := k, r := r, j := j })),
                            (1, V.sub 1 1 0 (PP.j { l := l, k := k, r := r, j := j })), (4, V.ff), (5, V.ptr 2 0),
                            (6, V.ptr 18 0), (7, V.s (S.int IntKind.i64 (-1))), (8, V.s (S.int IntKind.i64 mo)),
                            (9, V.s (S.int IntKind.i64 i))],
                        heap :=
                          [(0, Blk.lst false 4 [K.bool] l), (1, Blk.lst false 3 [K.int IntKind.i64] r),
                            (2,
                              Blk.cells 23
                                (cellsOf (confV dflt))),
                            (18,
                              Blk.cells 42
                                [V.s
                                    (S.int IntKind.i64
                                      (Md.since
                                        (nextA
                                          dflt
                                          { since := s, most := m } i
                                          (gB l i)))),
                                  V.s
                                    (S.int IntKind.i64
                                      (Md.most
                                        (nextA
                                          dflt
                                          { since := s, most := m } i
                                          (gB l i))))])],
                        next := 1000, size := 97 }))
                  (T.ite none (decide (i < ↑j))
                    (T.ite none (decide (0 ≤ i) && (decide (i < ↑j) && decide (0 + Int.toNat i < List.length r)))
                      (T.ite none (decide (0 + Int.toNat i < List.length r))
                        (T.ite none
                          (bif
                              keepW
                                  {
                                    since :=
                                      Md.since
                                        (nextA
                                          dflt
                                          { since := s, most := m } i
                                          (gB l i)),
                                    most :=
                                      Md.most
                                        (nextA
                                          dflt
                                          { since := s, most := m } i
                                          (gB l i)) }
                                  (gI r i) !=
                                gI r i then
                            true
                          else
                            !(Md.since
                                    (keepA
                                      {
                                        since :=
                                          Md.since
                                            (nextA
                                              dflt
                                              { since := s, most := m } i
                                              (gB l i)),
                                        most :=
                                          Md.most
                                            (nextA
                                              dflt
                                              { since := s, most := m } i
                                              (gB l i)) }
                                      (gI r i)) ==
                                  Md.since
                                    (nextA
                                      dflt
                                      { since := s, most := m } i
                                      (gB l i)) &&
                                (Md.most
                                      (keepA
                                        {
                                          since :=
                                            Md.since
                                              (nextA
                                                dflt
                                                { since := s, most := m } i
                                                (gB l i)),
                                          most :=
                                            Md.most
                                              (nextA
                                                dflt
                                                { since := s, most := m } i
                                                (gB l i)) }
                                        (gI r i)) ==
                                    Md.most
                                      (nextA
                                        dflt
                                        { since := s, most := m } i
                                        (gB l i)) &&
                                  true)))
                          (T.ret
                            (Ex.ret,
                              {
                                tmps :=
                                  [(0, V.sub 0 1 0 (PP.k { l := l, k := k, r := r, j := j })),
                                    (1, V.sub 1 1 0 (PP.j { l := l, k := k, r := r, j := j })), (4, V.ff),
                                    (5, V.ptr 2 0), (6, V.ptr 18 0), (7, V.s (S.int IntKind.i64 (-1))),
                                    (8, V.s (S.int IntKind.i64 mo)), (9, V.s (S.int IntKind.i64 i))],
                                heap :=
                                  [(0, Blk.lst false 4 [K.bool] l), (1, Blk.lst false 3 [K.int IntKind.i64] r),
                                    (2,
                                      Blk.cells 23
                                        (cellsOf (confV dflt))),
                                    (18,
                                      Blk.cells 42
                                        [V.s
                                            (S.int IntKind.i64
                                              (Md.since
                                                (nextA
                                                  dflt
                                                  { since := s, most := m } i
                                                  (gB l i)))),
                                          V.s
                                            (S.int IntKind.i64
                                              (Md.most
                                                (nextA
                                                  dflt
                                                  { since := s, most := m } i
                                                  (gB l i))))])],
                                next := 1000, size := 97 }))
                          (T.ret
                            (Ex.normal,
                              {
                                tmps :=
                                  [(0, V.sub 0 1 0 (PP.k { l := l, k := k, r := r, j := j })),
                                    (1, V.sub 1 1 0 (PP.j { l := l, k := k, r := r, j := j })), (4, V.ff),
                                    (5, V.ptr 2 0), (6, V.ptr 18 0), (7, V.s (S.int IntKind.i64 (-1))),
                                    (8, V.s (S.int IntKind.i64 mo)),
                                    (9, V.s (S.int IntKind.i64 (IntKind.wrap IntKind.i64 (i + 1))))],
                                heap :=
                                  [(0, Blk.lst false 4 [K.bool] l), (1, Blk.lst false 3 [K.int IntKind.i64] r),
                                    (2,
                                      Blk.cells 23
                                        (cellsOf (confV dflt))),
                                    (18,
                                      Blk.cells 42
                                        [V.s
                                            (S.int IntKind.i64
                                              (Md.since
                                                (keepA
                                                  {
                                                    since :=
                                                      Md.since
                                                        (nextA
                                                          dflt
                                                          { since := s, most := m } i
                                                          (gB l i)),
                                                    most :=
                                                      Md.most
                                                        (nextA
                                                          dflt
                                                          { since := s, most := m } i
                                                          (gB l i)) }
                                                  (gI r i)))),
                                          V.s
                                            (S.int IntKind.i64
                                              (Md.most
                                                (keepA
                                                  {
                                                    since :=
                                                      Md.since
                                                        (nextA
                                                          dflt
                                                          { since := s, most := m } i
                                                          (gB l i)),
                                                    most :=
                                                      Md.most
                                                        (nextA
                                                          dflt
                                                          { since := s, most := m } i
                                                          (gB l i)) }
                                                  (gI r i))))])],
                                next := 1000, size := 97 })))
                        T.fail)
                      T.fail)
                    (T.ite none
                      (bif
                          keepW
                              {
                                since :=
                                  Md.since
                                    (nextA
                                      dflt
                                      { since := s, most := m } i (gB l i)),
                                most :=
                                  Md.most
                                    (nextA
                                      dflt
                                      { since := s, most := m } i (gB l i)) }
                              0 !=
                            0 then
                        true
                      else
                        !(Md.since
                                (keepA
                                  {
                                    since :=
                                      Md.since
                                        (nextA
                                          dflt
                                          { since := s, most := m } i
                                          (gB l i)),
                                    most :=
                                      Md.most
                                        (nextA
                                          dflt
                                          { since := s, most := m } i
                                          (gB l i)) }
                                  0) ==
                              Md.since
                                (nextA
                                  dflt
                                  { since := s, most := m } i (gB l i)) &&
                            (Md.most
                                  (keepA
                                    {
                                      since :=
                                        Md.since
                                          (nextA
                                            dflt
                                            { since := s, most := m } i
                                            (gB l i)),
                                      most :=
                                        Md.most
                                          (nextA
                                            dflt
                                            { since := s, most := m } i
                                            (gB l i)) }
                                    0) ==
                                Md.most
                                  (nextA
                                    dflt
                                    { since := s, most := m } i (gB l i)) &&
                              true)))
                      (T.ret
                        (Ex.ret,
                          {
                            tmps :=
                              [(0, V.sub 0 1 0 (PP.k { l := l, k := k, r := r, j := j })),
                                (1, V.sub 1 1 0 (PP.j { l := l, k := k, r := r, j := j })), (4, V.ff), (5, V.ptr 2 0),
                                (6, V.ptr 18 0), (7, V.s (S.int IntKind.i64 (-1))), (8, V.s (S.int IntKind.i64 mo)),
                                (9, V.s (S.int IntKind.i64 i))],
                            heap :=
                              [(0, Blk.lst false 4 [K.bool] l), (1, Blk.lst false 3 [K.int IntKind.i64] r),
                                (2,
                                  Blk.cells 23
                                    (cellsOf (confV dflt))),
                                (18,
                                  Blk.cells 42
                                    [V.s
                                        (S.int IntKind.i64
                                          (Md.since
                                            (nextA
                                              dflt
                                              { since := s, most := m } i
                                              (gB l i)))),
                                      V.s
                                        (S.int IntKind.i64
                                          (Md.most
                                            (nextA
                                              dflt
                                              { since := s, most := m } i
                                              (gB l i))))])],
                            next := 1000, size := 97 }))
                      (T.ret
                        (Ex.normal,
                          {
                            tmps :=
                              [(0, V.sub 0 1 0 (PP.k { l := l, k := k, r := r, j := j })),
                                (1, V.sub 1 1 0 (PP.j { l := l, k := k, r := r, j := j })), (4, V.ff), (5, V.ptr 2 0),
                                (6, V.ptr 18 0), (7, V.s (S.int IntKind.i64 (-1))), (8, V.s (S.int IntKind.i64 mo)),
                                (9, V.s (S.int IntKind.i64 (IntKind.wrap IntKind.i64 (i + 1))))],
                            heap :=
                              [(0, Blk.lst false 4 [K.bool] l), (1, Blk.lst false 3 [K.int IntKind.i64] r),
                                (2,
                                  Blk.cells 23
                                    (cellsOf (confV dflt))),
                                (18,
                                  Blk.cells 42
                                    [V.s
                                        (S.int IntKind.i64
                                          (Md.since
                                            (keepA
                                              {
                                                since :=
                                                  Md.since
                                                    (nextA
                                                      dflt
                                                      { since := s, most := m } i
                                                      (gB l i)),
                                                most :=
                                                  Md.most
                                                    (nextA
                                                      dflt
                                                      { since := s, most := m } i
                                                      (gB l i)) }
                                              0))),
                                      V.s
                                        (S.int IntKind.i64
                                          (Md.most
                                            (keepA
                                              {
                                                since :=
                                                  Md.since
                                                    (nextA
                                                      dflt
                                                      { since := s, most := m } i
                                                      (gB l i)),
                                                most :=
                                                  Md.most
                                                    (nextA
                                                      dflt
                                                      { since := s, most := m } i
                                                      (gB l i)) }
                                              0)))])],
                            next := 1000, size := 97 })))))
                (T.ite none
                  (bif
                      !decide
                            (0 ≤
                              Md.since
                                (nextA
                                  dflt
                                  { since := s, most := m } i (gB l i))) ==
                          decide (0 ≤ la) then
                    true
                  else
                    bif decide (0 ≤ la) then
                      Md.since
                          (nextA
                            dflt
                            { since := s, most := m } i (gB l i)) !=
                        la
                    else false)
                  (T.ret
                    (Ex.ret,
                      {
                        tmps :=
                          [(0, V.sub 0 1 0 (PP.k { l := l, k := k, r := r, j := j })),
                            (1, V.sub 1 1 0 (PP.j { l := l, k := k, r := r, j := j })), (4, V.ff), (5, V.ptr 2 0),
                            (6, V.ptr 18 0), (7, V.s (S.int IntKind.i64 la)), (8, V.s (S.int IntKind.i64 mo)),
                            (9, V.s (S.int IntKind.i64 i))],
                        heap :=
                          [(0, Blk.lst false 4 [K.bool] l), (1, Blk.lst false 3 [K.int IntKind.i64] r),
                            (2,
                              Blk.cells 23
                                (cellsOf (confV dflt))),
                            (18,
                              Blk.cells 42
                                [V.s
                                    (S.int IntKind.i64
                                      (Md.since
                                        (nextA
                                          dflt
                                          { since := s, most := m } i
                                          (gB l i)))),
                                  V.s
                                    (S.int IntKind.i64
                                      (Md.most
                                        (nextA
                                          dflt
                                          { since := s, most := m } i
                                          (gB l i))))])],
                        next := 1000, size := 97 }))
                  (T.ite none (decide (i < ↑j))
                    (T.ite none (decide (0 ≤ i) && (decide (i < ↑j) && decide (0 + Int.toNat i < List.length r)))
                      (T.ite none (decide (0 + Int.toNat i < List.length r))
                        (T.ite none (decide (0 ≤ la))
                          (T.ite none
                            (keepW
                                {
                                  since :=
                                    Md.since
                                      (nextA
                                        dflt
                                        { since := s, most := m } i
                                        (gB l i)),
                                  most :=
                                    Md.most
                                      (nextA
                                        dflt
                                        { since := s, most := m } i
                                        (gB l i)) }
                                (gI r i) !=
                              if gI r i > mo then
                                gI r i
                              else mo)
                            (T.ret
                              (Ex.ret,
                                {
                                  tmps :=
                                    [(0, V.sub 0 1 0 (PP.k { l := l, k := k, r := r, j := j })),
                                      (1, V.sub 1 1 0 (PP.j { l := l, k := k, r := r, j := j })), (4, V.ff),
                                      (5, V.ptr 2 0), (6, V.ptr 18 0), (7, V.s (S.int IntKind.i64 la)),
                                      (8,
                                        V.s
                                          (S.int IntKind.i64
                                            (if gI r i > mo then
                                              gI r i
                                            else mo))),
                                      (9, V.s (S.int IntKind.i64 i))],
                                  heap :=
                                    [(0, Blk.lst false 4 [K.bool] l), (1, Blk.lst false 3 [K.int IntKind.i64] r),
                                      (2,
                                        Blk.cells 23
                                          (cellsOf (confV dflt))),
                                      (18,
                                        Blk.cells 42
                                          [V.s
                                              (S.int IntKind.i64
                                                (Md.since
                                                  (nextA
                                                    dflt
                                                    { since := s, most := m } i
                                                    (gB l i)))),
                                            V.s
                                              (S.int IntKind.i64
                                                (Md.most
                                                  (nextA
                                                    dflt
                                                    { since := s, most := m } i
                                                    (gB l i))))])],
                                  next := 1000, size := 97 }))
                            (T.ret
                              (Ex.normal,
                                {
                                  tmps :=
                                    [(0, V.sub 0 1 0 (PP.k { l := l, k := k, r := r, j := j })),
                                      (1, V.sub 1 1 0 (PP.j { l := l, k := k, r := r, j := j })), (4, V.ff),
                                      (5, V.ptr 2 0), (6, V.ptr 18 0), (7, V.s (S.int IntKind.i64 la)),
                                      (8,
                                        V.s
                                          (S.int IntKind.i64
                                            (if gI r i > mo then
                                              gI r i
                                            else mo))),
                                      (9, V.s (S.int IntKind.i64 (IntKind.wrap IntKind.i64 (i + 1))))],
                                  heap :=
                                    [(0, Blk.lst false 4 [K.bool] l), (1, Blk.lst false 3 [K.int IntKind.i64] r),
                                      (2,
                                        Blk.cells 23
                                          (cellsOf (confV dflt))),
                                      (18,
                                        Blk.cells 42
                                          [V.s
                                              (S.int IntKind.i64
                                                (Md.since
                                                  (keepA
                                                    {
                                                      since :=
                                                        Md.since
                                                          (nextA
                                                            dflt
                                                            { since := s, most := m } i
                                                            (gB l i)),
                                                      most :=
                                                        Md.most
                                                          (nextA
                                                            dflt
                                                            { since := s, most := m } i
                                                            (gB l i)) }
                                                    (gI r i)))),
                                            V.s
                                              (S.int IntKind.i64
                                                (Md.most
                                                  (keepA
                                                    {
                                                      since :=
                                                        Md.since
                                                          (nextA
                                                            dflt
                                                            { since := s, most := m } i
                                                            (gB l i)),
                                                      most :=
                                                        Md.most
                                                          (nextA
                                                            dflt
                                                            { since := s, most := m } i
                                                            (gB l i)) }
                                                    (gI r i))))])],
                                  next := 1000, size := 97 })))
                          (T.ite none
                            (bif
                                keepW
                                    {
                                      since :=
                                        Md.since
                                          (nextA
                                            dflt
                                            { since := s, most := m } i
                                            (gB l i)),
                                      most :=
                                        Md.most
                                          (nextA
                                            dflt
                                            { since := s, most := m } i
                                            (gB l i)) }
                                    (gI r i) !=
                                  gI r i then
                              true
                            else
                              !(Md.since
                                      (keepA
                                        {
                                          since :=
                                            Md.since
                                              (nextA
                                                dflt
                                                { since := s, most := m } i
                                                (gB l i)),
                                          most :=
                                            Md.most
                                              (nextA
                                                dflt
                                                { since := s, most := m } i
                                                (gB l i)) }
                                        (gI r i)) ==
                                    Md.since
                                      (nextA
                                        dflt
                                        { since := s, most := m } i
                                        (gB l i)) &&
                                  (Md.most
                                        (keepA
                                          {
                                            since :=
                                              Md.since
                                                (nextA
                                                  dflt
                                                  { since := s, most := m } i
                                                  (gB l i)),
                                            most :=
                                              Md.most
                                                (nextA
                                                  dflt
                                                  { since := s, most := m } i
                                                  (gB l i)) }
                                          (gI r i)) ==
                                      Md.most
                                        (nextA
                                          dflt
                                          { since := s, most := m } i
                                          (gB l i)) &&
                                    true)))
                            (T.ret
                              (Ex.ret,
                                {
                                  tmps :=
                                    [(0, V.sub 0 1 0 (PP.k { l := l, k := k, r := r, j := j })),
                                      (1, V.sub 1 1 0 (PP.j { l := l, k := k, r := r, j := j })), (4, V.ff),
                                      (5, V.ptr 2 0), (6, V.ptr 18 0), (7, V.s (S.int IntKind.i64 la)),
                                      (8, V.s (S.int IntKind.i64 mo)), (9, V.s (S.int IntKind.i64 i))],
                                  heap :=
                                    [(0, Blk.lst false 4 [K.bool] l), (1, Blk.lst false 3 [K.int IntKind.i64] r),
                                      (2,
                                        Blk.cells 23
                                          (cellsOf (confV dflt))),
                                      (18,
                                        Blk.cells 42
                                          [V.s
                                              (S.int IntKind.i64
                                                (Md.since
                                                  (nextA
                                                    dflt
                                                    { since := s, most := m } i
                                                    (gB l i)))),
                                            V.s
                                              (S.int IntKind.i64
                                                (Md.most
                                                  (nextA
                                                    dflt
                                                    { since := s, most := m } i
                                                    (gB l i))))])],
                                  next := 1000, size := 97 }))
                            (T.ret
                              (Ex.normal,
                                {
                                  tmps :=
                                    [(0, V.sub 0 1 0 (PP.k { l := l, k := k, r := r, j := j })),
                                      (1, V.sub 1 1 0 (PP.j { l := l, k := k, r := r, j := j })), (4, V.ff),
                                      (5, V.ptr 2 0), (6, V.ptr 18 0), (7, V.s (S.int IntKind.i64 la)),
                                      (8, V.s (S.int IntKind.i64 mo)),
                                      (9, V.s (S.int IntKind.i64 (IntKind.wrap IntKind.i64 (i + 1))))],
                                  heap :=
                                    [(0, Blk.lst false 4 [K.bool] l), (1, Blk.lst false 3 [K.int IntKind.i64] r),
                                      (2,
                                        Blk.cells 23
                                          (cellsOf (confV dflt))),
                                      (18,
                                        Blk.cells 42
                                          [V.s
                                              (S.int IntKind.i64
                                                (Md.since
                                                  (keepA
                                                    {
                                                      since :=
                                                        Md.since
                                                          (nextA
                                                            dflt
                                                            { since := s, most := m } i
                                                            (gB l i)),
                                                      most :=
                                                        Md.most
                                                          (nextA
                                                            dflt
                                                            { since := s, most := m } i
                                                            (gB l i)) }
                                                    (gI r i)))),
                                            V.s
                                              (S.int IntKind.i64
                                                (Md.most
                                                  (keepA
                                                    {
                                                      since :=
                                                        Md.since
                                                          (nextA
                                                            dflt
                                                            { since := s, most := m } i
                                                            (gB l i)),
                                                      most :=
                                                        Md.most
                                                          (nextA
                                                            dflt
                                                            { since := s, most := m } i
                                                            (gB l i)) }
                                                    (gI r i))))])],
                                  next := 1000, size := 97 }))))
                        T.fail)
                      T.fail)
                    (T.ite none (decide (0 ≤ la))
                      (T.ite none
                        (keepW
                            {
                              since :=
                                Md.since
                                  (nextA
                                    dflt
                                    { since := s, most := m } i (gB l i)),
                              most :=
                                Md.most
                                  (nextA
                                    dflt
                                    { since := s, most := m } i (gB l i)) }
                            0 !=
                          if 0 > mo then 0 else mo)
                        (T.ret
                          (Ex.ret,
                            {
                              tmps :=
                                [(0, V.sub 0 1 0 (PP.k { l := l, k := k, r := r, j := j })),
                                  (1, V.sub 1 1 0 (PP.j { l := l, k := k, r := r, j := j })), (4, V.ff), (5, V.ptr 2 0),
                                  (6, V.ptr 18 0), (7, V.s (S.int IntKind.i64 la)),
                                  (8, V.s (S.int IntKind.i64 (if 0 > mo then 0 else mo))),
                                  (9, V.s (S.int IntKind.i64 i))],
                              heap :=
                                [(0, Blk.lst false 4 [K.bool] l), (1, Blk.lst false 3 [K.int IntKind.i64] r),
                                  (2,
                                    Blk.cells 23
                                      (cellsOf (confV dflt))),
                                  (18,
                                    Blk.cells 42
                                      [V.s
                                          (S.int IntKind.i64
                                            (Md.since
                                              (nextA
                                                dflt
                                                { since := s, most := m } i
                                                (gB l i)))),
                                        V.s
                                          (S.int IntKind.i64
                                            (Md.most
                                              (nextA
                                                dflt
                                                { since := s, most := m } i
                                                (gB l i))))])],
                              next := 1000, size := 97 }))
                        (T.ret
                          (Ex.normal,
                            {
                              tmps :=
                                [(0, V.sub 0 1 0 (PP.k { l := l, k := k, r := r, j := j })),
                                  (1, V.sub 1 1 0 (PP.j { l := l, k := k, r := r, j := j })), (4, V.ff), (5, V.ptr 2 0),
                                  (6, V.ptr 18 0), (7, V.s (S.int IntKind.i64 la)),
                                  (8, V.s (S.int IntKind.i64 (if 0 > mo then 0 else mo))),
                                  (9, V.s (S.int IntKind.i64 (IntKind.wrap IntKind.i64 (i + 1))))],
                              heap :=
                                [(0, Blk.lst false 4 [K.bool] l), (1, Blk.lst false 3 [K.int IntKind.i64] r),
                                  (2,
                                    Blk.cells 23
                                      (cellsOf (confV dflt))),
                                  (18,
                                    Blk.cells 42
                                      [V.s
                                          (S.int IntKind.i64
                                            (Md.since
                                              (keepA
                                                {
                                                  since :=
                                                    Md.since
                                                      (nextA
                                                        dflt
                                                        { since := s, most := m } i
                                                        (gB l i)),
                                                  most :=
                                                    Md.most
                                                      (nextA
                                                        dflt
                                                        { since := s, most := m } i
                                                        (gB l i)) }
                                                0))),
                                        V.s
                                          (S.int IntKind.i64
                                            (Md.most
                                              (keepA
                                                {
                                                  since :=
                                                    Md.since
                                                      (nextA
                                                        dflt
                                                        { since := s, most := m } i
                                                        (gB l i)),
                                                  most :=
                                                    Md.most
                                                      (nextA
                                                        dflt
                                                        { since := s, most := m } i
                                                        (gB l i)) }
                                                0)))])],
                              next := 1000, size := 97 })))
                      (T.ite none
                        (bif
                            keepW
                                {
                                  since :=
                                    Md.since
                                      (nextA
                                        dflt
                                        { since := s, most := m } i
                                        (gB l i)),
                                  most :=
                                    Md.most
                                      (nextA
                                        dflt
                                        { since := s, most := m } i
                                        (gB l i)) }
                                0 !=
                              0 then
                          true
                        else
                          !(Md.since
                                  (keepA
                                    {
                                      since :=
                                        Md.since
                                          (nextA
                                            dflt
                                            { since := s, most := m } i
                                            (gB l i)),
                                      most :=
                                        Md.most
                                          (nextA
                                            dflt
                                            { since := s, most := m } i
                                            (gB l i)) }
                                    0) ==
                                Md.since
                                  (nextA
                                    dflt
                                    { since := s, most := m } i (gB l i)) &&
                              (Md.most
                                    (keepA
                                      {
                                        since :=
                                          Md.since
                                            (nextA
                                              dflt
                                              { since := s, most := m } i
                                              (gB l i)),
                                        most :=
                                          Md.most
                                            (nextA
                                              dflt
                                              { since := s, most := m } i
                                              (gB l i)) }
                                      0) ==
                                  Md.most
                                    (nextA
                                      dflt
                                      { since := s, most := m } i
                                      (gB l i)) &&
                                true)))
                        (T.ret
                          (Ex.ret,
                            {
                              tmps :=
                                [(0, V.sub 0 1 0 (PP.k { l := l, k := k, r := r, j := j })),
                                  (1, V.sub 1 1 0 (PP.j { l := l, k := k, r := r, j := j })), (4, V.ff), (5, V.ptr 2 0),
                                  (6, V.ptr 18 0), (7, V.s (S.int IntKind.i64 la)), (8, V.s (S.int IntKind.i64 mo)),
                                  (9, V.s (S.int IntKind.i64 i))],
                              heap :=
                                [(0, Blk.lst false 4 [K.bool] l), (1, Blk.lst false 3 [K.int IntKind.i64] r),
                                  (2,
                                    Blk.cells 23
                                      (cellsOf (confV dflt))),
                                  (18,
                                    Blk.cells 42
                                      [V.s
                                          (S.int IntKind.i64
                                            (Md.since
                                              (nextA
                                                dflt
                                                { since := s, most := m } i
                                                (gB l i)))),
                                        V.s
                                          (S.int IntKind.i64
                                            (Md.most
                                              (nextA
                                                dflt
                                                { since := s, most := m } i
                                                (gB l i))))])],
                              next := 1000, size := 97 }))
                        (T.ret
                          (Ex.normal,
                            {
                              tmps :=
                                [(0, V.sub 0 1 0 (PP.k { l := l, k := k, r := r, j := j })),
                                  (1, V.sub 1 1 0 (PP.j { l := l, k := k, r := r, j := j })), (4, V.ff), (5, V.ptr 2 0),
                                  (6, V.ptr 18 0), (7, V.s (S.int IntKind.i64 la)), (8, V.s (S.int IntKind.i64 mo)),
                                  (9, V.s (S.int IntKind.i64 (IntKind.wrap IntKind.i64 (i + 1))))],
                              heap :=
                                [(0, Blk.lst false 4 [K.bool] l), (1, Blk.lst false 3 [K.int IntKind.i64] r),
                                  (2,
                                    Blk.cells 23
                                      (cellsOf (confV dflt))),
                                  (18,
                                    Blk.cells 42
                                      [V.s
                                          (S.int IntKind.i64
                                            (Md.since
                                              (keepA
                                                {
                                                  since :=
                                                    Md.since
                                                      (nextA
                                                        dflt
                                                        { since := s, most := m } i
                                                        (gB l i)),
                                                  most :=
                                                    Md.most
                                                      (nextA
                                                        dflt
                                                        { since := s, most := m } i
                                                        (gB l i)) }
                                                0))),
                                        V.s
                                          (S.int IntKind.i64
                                            (Md.most
                                              (keepA
                                                {
                                                  since :=
                                                    Md.since
                                                      (nextA
                                                        dflt
                                                        { since := s, most := m } i
                                                        (gB l i)),
                                                  most :=
                                                    Md.most
                                                      (nextA
                                                        dflt
                                                        { since := s, most := m } i
                                                        (gB l i)) }
                                                0)))])],
                              next := 1000, size := 97 }))))))))
            T.fail)
          T.fail)
        T.fail)
      T.fail)
    T.fail)
  (T.ret
    (Ex.exit 0,
      {
        tmps :=
          [(0, V.sub 0 1 0 (PP.k { l := l, k := k, r := r, j := j })),
            (1, V.sub 1 1 0 (PP.j { l := l, k := k, r := r, j := j })), (4, V.ff), (5, V.ptr 2 0), (6, V.ptr 18 0),
            (7, V.s (S.int IntKind.i64 la)), (8, V.s (S.int IntKind.i64 mo)), (9, V.s (S.int IntKind.i64 i))],
        heap :=
          [(0, Blk.lst false 4 [K.bool] l), (1, Blk.lst false 3 [K.int IntKind.i64] r),
            (2,
              Blk.cells 23
                (cellsOf (confV dflt))),
            (18, Blk.cells 42 [V.s (S.int IntKind.i64 s), V.s (S.int IntKind.i64 m)])],
        next := 1000, size := 97 }))
def rtZ (l : List Bool) (k : Nat) (a b c s ru i : Int) : T (Ex × St) := T.ite none (bif decide (i < ↑k) then decide (i < 150) else false)
  (T.ite none (decide (0 ≤ i) && (decide (i < ↑k) && decide (0 + Int.toNat i < List.length l)))
    (T.ite none (decide (0 + Int.toNat i < List.length l))
      (T.ite none (decide (0 ≤ i) && (decide (i < ↑k) && decide (0 + Int.toNat i < List.length l)))
        (T.ite none (decide (0 + Int.toNat i < List.length l))
          (T.ite none (!gB l i)
            (T.ite none (inR (nextZ s i (gB l i)) && inR i)
              (T.ite none
                (bif
                    (!mayZ
                              dflt
                              (nextZ s i (gB l i)) i 0 0 0 ==
                            false) ==
                        false &&
                      true then
                  inR (nextZ s i (gB l i)) && inR i
                else true)
                (T.ite none
                  (bif
                      !mayZ
                            dflt
                            (nextZ s i (gB l i)) i 0 0 0 ==
                          false then
                    true
                  else
                    !(wantZ
                            dflt
                            (nextZ s i (gB l i)) i 0 1 0 0 0 ==
                          0) ==
                        false)
                  (T.ret
                    (Ex.ret,
                      {
                        tmps :=
                          [(0, V.sub 0 1 0 (PZ.k { l := l, k := k, a := a, b := b, c := c })),
                            (1, V.s (S.int IntKind.i64 a)), (2, V.s (S.int IntKind.i64 b)),
                            (3, V.s (S.int IntKind.i64 c)), (8, V.ff), (9, V.ptr 1 0), (10, V.ptr 17 0),
                            (11, V.s (S.int IntKind.i64 0)), (12, V.s (S.int IntKind.i64 i))],
                        heap :=
                          [(0, Blk.lst false 4 [K.bool] l),
                            (1,
                              Blk.cells 23
                                (cellsOf (confV dflt))),
                            (17,
                              Blk.cells 62
                                [V.s
                                    (S.int IntKind.i64
                                      (nextZ s i (gB l i)))])],
                        next := 1000, size := 81 }))
                  (T.ite none (inR (nextZ s i (gB l i)) && inR i)
                    (T.ite none
                      (!mayZ
                            dflt
                            (nextZ s i (gB l i)) i a b c ==
                          false)
                      (T.ret
                        (Ex.ret,
                          {
                            tmps :=
                              [(0, V.sub 0 1 0 (PZ.k { l := l, k := k, a := a, b := b, c := c })),
                                (1, V.s (S.int IntKind.i64 a)), (2, V.s (S.int IntKind.i64 b)),
                                (3, V.s (S.int IntKind.i64 c)), (8, V.ff), (9, V.ptr 1 0), (10, V.ptr 17 0),
                                (11, V.s (S.int IntKind.i64 0)), (12, V.s (S.int IntKind.i64 i))],
                            heap :=
                              [(0, Blk.lst false 4 [K.bool] l),
                                (1,
                                  Blk.cells 23
                                    (cellsOf (confV dflt))),
                                (17,
                                  Blk.cells 62
                                    [V.s
                                        (S.int IntKind.i64
                                          (nextZ s i (gB l i)))])],
                            next := 1000, size := 81 }))
                      (T.ret
                        (Ex.normal,
                          {
                            tmps :=
                              [(0, V.sub 0 1 0 (PZ.k { l := l, k := k, a := a, b := b, c := c })),
                                (1, V.s (S.int IntKind.i64 a)), (2, V.s (S.int IntKind.i64 b)),
                                (3, V.s (S.int IntKind.i64 c)), (8, V.ff), (9, V.ptr 1 0), (10, V.ptr 17 0),
                                (11, V.s (S.int IntKind.i64 0)),
                                (12, V.s (S.int IntKind.i64 (IntKind.wrap IntKind.i64 (i + 1))))],
                            heap :=
                              [(0, Blk.lst false 4 [K.bool] l),
                                (1,
                                  Blk.cells 23
                                    (cellsOf (confV dflt))),
                                (17,
                                  Blk.cells 62
                                    [V.s
                                        (S.int IntKind.i64
                                          (nextZ s i (gB l i)))])],
                            next := 1000, size := 81 })))
                    T.fail))
                T.fail)
              T.fail)
            (T.ite none (inR (nextZ s i (gB l i)) && inR i)
              (T.ite none
                (bif
                    (!mayZ
                              dflt
                              (nextZ s i (gB l i)) i 0 0 0 ==
                            decide (30 < IntKind.wrap IntKind.i64 (ru + 1))) ==
                        false &&
                      true then
                  inR (nextZ s i (gB l i)) && inR i
                else true)
                (T.ite none
                  (bif
                      !mayZ
                            dflt
                            (nextZ s i (gB l i)) i 0 0 0 ==
                          decide (30 < IntKind.wrap IntKind.i64 (ru + 1)) then
                    true
                  else
                    !(wantZ
                            dflt
                            (nextZ s i (gB l i)) i 0 1 0 0 0 ==
                          0) ==
                        decide (30 < IntKind.wrap IntKind.i64 (ru + 1)))
                  (T.ret
                    (Ex.ret,
                      {
                        tmps :=
                          [(0, V.sub 0 1 0 (PZ.k { l := l, k := k, a := a, b := b, c := c })),
                            (1, V.s (S.int IntKind.i64 a)), (2, V.s (S.int IntKind.i64 b)),
                            (3, V.s (S.int IntKind.i64 c)), (8, V.ff), (9, V.ptr 1 0), (10, V.ptr 17 0),
                            (11, V.s (S.int IntKind.i64 (IntKind.wrap IntKind.i64 (ru + 1)))),
                            (12, V.s (S.int IntKind.i64 i))],
                        heap :=
                          [(0, Blk.lst false 4 [K.bool] l),
                            (1,
                              Blk.cells 23
                                (cellsOf (confV dflt))),
                            (17,
                              Blk.cells 62
                                [V.s
                                    (S.int IntKind.i64
                                      (nextZ s i (gB l i)))])],
                        next := 1000, size := 81 }))
                  (T.ite none (inR (nextZ s i (gB l i)) && inR i)
                    (T.ite none
                      (!mayZ
                            dflt
                            (nextZ s i (gB l i)) i a b c ==
                          bif decide (30 < IntKind.wrap IntKind.i64 (ru + 1)) then
                            bif bif a == 0 then b == 0 else false then c == 0 else false
                          else false)
                      (T.ret
                        (Ex.ret,
                          {
                            tmps :=
                              [(0, V.sub 0 1 0 (PZ.k { l := l, k := k, a := a, b := b, c := c })),
                                (1, V.s (S.int IntKind.i64 a)), (2, V.s (S.int IntKind.i64 b)),
                                (3, V.s (S.int IntKind.i64 c)), (8, V.ff), (9, V.ptr 1 0), (10, V.ptr 17 0),
                                (11, V.s (S.int IntKind.i64 (IntKind.wrap IntKind.i64 (ru + 1)))),
                                (12, V.s (S.int IntKind.i64 i))],
                            heap :=
                              [(0, Blk.lst false 4 [K.bool] l),
                                (1,
                                  Blk.cells 23
                                    (cellsOf (confV dflt))),
                                (17,
                                  Blk.cells 62
                                    [V.s
                                        (S.int IntKind.i64
                                          (nextZ s i (gB l i)))])],
                            next := 1000, size := 81 }))
                      (T.ret
                        (Ex.normal,
                          {
                            tmps :=
                              [(0, V.sub 0 1 0 (PZ.k { l := l, k := k, a := a, b := b, c := c })),
                                (1, V.s (S.int IntKind.i64 a)), (2, V.s (S.int IntKind.i64 b)),
                                (3, V.s (S.int IntKind.i64 c)), (8, V.ff), (9, V.ptr 1 0), (10, V.ptr 17 0),
                                (11, V.s (S.int IntKind.i64 (IntKind.wrap IntKind.i64 (ru + 1)))),
                                (12, V.s (S.int IntKind.i64 (IntKind.wrap IntKind.i64 (i + 1))))],
                            heap :=
                              [(0, Blk.lst false 4 [K.bool] l),
                                (1,
                                  Blk.cells 23
                                    (cellsOf (confV dflt))),
                                (17,
                                  Blk.cells 62
                                    [V.s
                                        (S.int IntKind.i64
                                          (nextZ s i (gB l i)))])],
                            next := 1000, size := 81 })))
                    T.fail))
                T.fail)
              T.fail))
          T.fail)
        T.fail)
      T.fail)
    T.fail)
  (T.ret
    (Ex.exit 0,
      {
        tmps :=
          [(0, V.sub 0 1 0 (PZ.k { l := l, k := k, a := a, b := b, c := c })), (1, V.s (S.int IntKind.i64 a)),
            (2, V.s (S.int IntKind.i64 b)), (3, V.s (S.int IntKind.i64 c)), (8, V.ff), (9, V.ptr 1 0), (10, V.ptr 17 0),
            (11, V.s (S.int IntKind.i64 ru)), (12, V.s (S.int IntKind.i64 i))],
        heap :=
          [(0, Blk.lst false 4 [K.bool] l),
            (1,
              Blk.cells 23
                (cellsOf (confV dflt))),
            (17, Blk.cells 62 [V.s (S.int IntKind.i64 s)])],
        next := 1000, size := 81 }))
end Go.Proofs.Ytdkebjdhpioehaa.Conf
