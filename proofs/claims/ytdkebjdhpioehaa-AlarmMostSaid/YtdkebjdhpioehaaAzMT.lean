/- Trees as the machine prints them. -/
import Derived.Test.YtdkebjdhpioehaaAzM
import Derived.Test.YtdkebjdhpioehaaYes
namespace Go.Proofs.Ytdkebjdhpioehaa.Conf
open Go.Eng Go.RowKit Mil
set_option linter.unusedVariables false
set_option maxRecDepth 100000
noncomputable def lawM (l : List Int) (n : Int) : T V := T.ite none (inR (-1) && inR 10)
  (T.ite none
    (invM { l := l, k := List.length l, n := n }
      {
        s :=
          Md.since
            (nextA
              dflt
              { since := -1, most := 0 } 10 true),
        m :=
          Md.most
            (nextA
              dflt
              { since := -1, most := 0 } 10 true),
        mo := 0, i := 0 })
    (T.ite none
      (inR
          (AM.s
            (endW (nxtM { l := l, k := List.length l, n := n })
              {
                s :=
                  Md.since
                    (nextA
                      dflt
                      { since := -1, most := 0 } 10 true),
                m :=
                  Md.most
                    (nextA
                      dflt
                      { since := -1, most := 0 } 10 true),
                mo := 0, i := 0 })) &&
        inR 70)
      (T.ite none (1000 == 0) T.fail
        (T.ite none
          (inR
              (Md.since
                (nextA
                  dflt
                  {
                    since :=
                      AM.s
                        (endW (nxtM { l := l, k := List.length l, n := n })
                          {
                            s :=
                              Md.since
                                (nextA
                                  dflt
                                  { since := -1, most := 0 } 10 true),
                            m :=
                              Md.most
                                (nextA
                                  dflt
                                  { since := -1, most := 0 } 10 true),
                            mo := 0, i := 0 }),
                    most :=
                      AM.m
                        (endW (nxtM { l := l, k := List.length l, n := n })
                          {
                            s :=
                              Md.since
                                (nextA
                                  dflt
                                  { since := -1, most := 0 } 10 true),
                            m :=
                              Md.most
                                (nextA
                                  dflt
                                  { since := -1, most := 0 } 10 true),
                            mo := 0, i := 0 }) }
                  70 false)) &&
            inR 80)
          (T.ret
            (V.s
              (S.bool
                (bif
                    bif
                        !decide
                            (0 ≤
                              Md.since
                                (nextA
                                  dflt
                                  {
                                    since :=
                                      AM.s
                                        (endW (nxtM { l := l, k := List.length l, n := n })
                                          {
                                            s :=
                                              Md.since
                                                (nextA
                                                  dflt
                                                  { since := -1, most := 0 } 10 true),
                                            m :=
                                              Md.most
                                                (nextA
                                                  dflt
                                                  { since := -1, most := 0 } 10 true),
                                            mo := 0, i := 0 }),
                                    most :=
                                      AM.m
                                        (endW (nxtM { l := l, k := List.length l, n := n })
                                          {
                                            s :=
                                              Md.since
                                                (nextA
                                                  dflt
                                                  { since := -1, most := 0 } 10 true),
                                            m :=
                                              Md.most
                                                (nextA
                                                  dflt
                                                  { since := -1, most := 0 } 10 true),
                                            mo := 0, i := 0 }) }
                                  70 false)) then
                      Md.most
                          (nextA
                            dflt
                            {
                              since :=
                                Md.since
                                  (nextA
                                    dflt
                                    {
                                      since :=
                                        AM.s
                                          (endW (nxtM { l := l, k := List.length l, n := n })
                                            {
                                              s :=
                                                Md.since
                                                  (nextA
                                                    dflt
                                                    { since := -1, most := 0 } 10 true),
                                              m :=
                                                Md.most
                                                  (nextA
                                                    dflt
                                                    { since := -1, most := 0 } 10 true),
                                              mo := 0, i := 0 }),
                                      most :=
                                        AM.m
                                          (endW (nxtM { l := l, k := List.length l, n := n })
                                            {
                                              s :=
                                                Md.since
                                                  (nextA
                                                    dflt
                                                    { since := -1, most := 0 } 10 true),
                                              m :=
                                                Md.most
                                                  (nextA
                                                    dflt
                                                    { since := -1, most := 0 } 10 true),
                                              mo := 0, i := 0 }) }
                                    70 false),
                              most :=
                                Md.most
                                  (nextA
                                    dflt
                                    {
                                      since :=
                                        AM.s
                                          (endW (nxtM { l := l, k := List.length l, n := n })
                                            {
                                              s :=
                                                Md.since
                                                  (nextA
                                                    dflt
                                                    { since := -1, most := 0 } 10 true),
                                              m :=
                                                Md.most
                                                  (nextA
                                                    dflt
                                                    { since := -1, most := 0 } 10 true),
                                              mo := 0, i := 0 }),
                                      most :=
                                        AM.m
                                          (endW (nxtM { l := l, k := List.length l, n := n })
                                            {
                                              s :=
                                                Md.since
                                                  (nextA
                                                    dflt
                                                    { since := -1, most := 0 } 10 true),
                                              m :=
                                                Md.most
                                                  (nextA
                                                    dflt
                                                    { since := -1, most := 0 } 10 true),
                                              mo := 0, i := 0 }) }
                                    70 false) }
                            80 true) ==
                        0
                    else false then
                  keepW
                      {
                        since :=
                          Md.since
                            (nextA
                              dflt
                              {
                                since :=
                                  Md.since
                                    (nextA
                                      dflt
                                      {
                                        since :=
                                          AM.s
                                            (endW (nxtM { l := l, k := List.length l, n := n })
                                              {
                                                s :=
                                                  Md.since
                                                    (nextA
                                                      dflt
                                                      { since := -1, most := 0 } 10 true),
                                                m :=
                                                  Md.most
                                                    (nextA
                                                      dflt
                                                      { since := -1, most := 0 } 10 true),
                                                mo := 0, i := 0 }),
                                        most :=
                                          AM.m
                                            (endW (nxtM { l := l, k := List.length l, n := n })
                                              {
                                                s :=
                                                  Md.since
                                                    (nextA
                                                      dflt
                                                      { since := -1, most := 0 } 10 true),
                                                m :=
                                                  Md.most
                                                    (nextA
                                                      dflt
                                                      { since := -1, most := 0 } 10 true),
                                                mo := 0, i := 0 }) }
                                      70 false),
                                most :=
                                  Md.most
                                    (nextA
                                      dflt
                                      {
                                        since :=
                                          AM.s
                                            (endW (nxtM { l := l, k := List.length l, n := n })
                                              {
                                                s :=
                                                  Md.since
                                                    (nextA
                                                      dflt
                                                      { since := -1, most := 0 } 10 true),
                                                m :=
                                                  Md.most
                                                    (nextA
                                                      dflt
                                                      { since := -1, most := 0 } 10 true),
                                                mo := 0, i := 0 }),
                                        most :=
                                          AM.m
                                            (endW (nxtM { l := l, k := List.length l, n := n })
                                              {
                                                s :=
                                                  Md.since
                                                    (nextA
                                                      dflt
                                                      { since := -1, most := 0 } 10 true),
                                                m :=
                                                  Md.most
                                                    (nextA
                                                      dflt
                                                      { since := -1, most := 0 } 10 true),
                                                mo := 0, i := 0 }) }
                                      70 false) }
                              80 true),
                        most :=
                          Md.most
                            (nextA
                              dflt
                              {
                                since :=
                                  Md.since
                                    (nextA
                                      dflt
                                      {
                                        since :=
                                          AM.s
                                            (endW (nxtM { l := l, k := List.length l, n := n })
                                              {
                                                s :=
                                                  Md.since
                                                    (nextA
                                                      dflt
                                                      { since := -1, most := 0 } 10 true),
                                                m :=
                                                  Md.most
                                                    (nextA
                                                      dflt
                                                      { since := -1, most := 0 } 10 true),
                                                mo := 0, i := 0 }),
                                        most :=
                                          AM.m
                                            (endW (nxtM { l := l, k := List.length l, n := n })
                                              {
                                                s :=
                                                  Md.since
                                                    (nextA
                                                      dflt
                                                      { since := -1, most := 0 } 10 true),
                                                m :=
                                                  Md.most
                                                    (nextA
                                                      dflt
                                                      { since := -1, most := 0 } 10 true),
                                                mo := 0, i := 0 }) }
                                      70 false),
                                most :=
                                  Md.most
                                    (nextA
                                      dflt
                                      {
                                        since :=
                                          AM.s
                                            (endW (nxtM { l := l, k := List.length l, n := n })
                                              {
                                                s :=
                                                  Md.since
                                                    (nextA
                                                      dflt
                                                      { since := -1, most := 0 } 10 true),
                                                m :=
                                                  Md.most
                                                    (nextA
                                                      dflt
                                                      { since := -1, most := 0 } 10 true),
                                                mo := 0, i := 0 }),
                                        most :=
                                          AM.m
                                            (endW (nxtM { l := l, k := List.length l, n := n })
                                              {
                                                s :=
                                                  Md.since
                                                    (nextA
                                                      dflt
                                                      { since := -1, most := 0 } 10 true),
                                                m :=
                                                  Md.most
                                                    (nextA
                                                      dflt
                                                      { since := -1, most := 0 } 10 true),
                                                mo := 0, i := 0 }) }
                                      70 false) }
                              80 true) }
                      (IntKind.wrap IntKind.i64
                        (Int.tmod (IntKind.wrap IntKind.u64 (PM.n { l := l, k := List.length l, n := n })) 1000)) ==
                    IntKind.wrap IntKind.i64
                      (Int.tmod (IntKind.wrap IntKind.u64 (PM.n { l := l, k := List.length l, n := n })) 1000)
                else false))))
          T.fail))
      T.fail)
    T.fail)
  T.fail
end Go.Proofs.Ytdkebjdhpioehaa.Conf
