/- Trees as the machine prints them. -/
import Derived.Test.YtdkebjdhpioehaaRateS
import Derived.Test.YtdkebjdhpioehaaYes
namespace Go.Proofs.Ytdkebjdhpioehaa.Conf
open Go.Eng Go.RowKit Mil
set_option linter.unusedVariables false
set_option maxRecDepth 100000
def rmoreT (c : Cf) (a b w v : Int) : T V := T.ite none
  (!mayB
      c)
  (T.ret V.tt)
  (T.ite none (10000 == 0) T.fail
    (T.ite none (10000 == 0) T.fail
      (T.ite none (10000 == 0) T.fail
        (T.ite none (10000 == 0) T.fail
          (T.ite none
            (decide
              (IntKind.wrap IntKind.i64 (Int.tmod (IntKind.wrap IntKind.u64 b) 10000) <
                IntKind.wrap IntKind.i64 (Int.tmod (IntKind.wrap IntKind.u64 a) 10000)))
            (T.ite none
              (decide
                (IntKind.wrap IntKind.i64 (Int.tmod (IntKind.wrap IntKind.u64 v) 10000) <
                  IntKind.wrap IntKind.i64 (Int.tmod (IntKind.wrap IntKind.u64 w) 10000)))
              (T.ite none true
                (T.ite none true
                  (T.ite none
                    (bif
                        decide
                              (leastR
                                  c
                                  (IntKind.wrap IntKind.i64 (Int.tmod (IntKind.wrap IntKind.u64 b) 10000)) ≤
                                leastR
                                  c
                                  (IntKind.wrap IntKind.i64 (Int.tmod (IntKind.wrap IntKind.u64 a) 10000))) ==
                            true &&
                          true then
                      true
                    else true)
                    (T.ite none
                      (bif
                          decide
                                (leastR
                                    c
                                    (IntKind.wrap IntKind.i64 (Int.tmod (IntKind.wrap IntKind.u64 b) 10000)) ≤
                                  leastR
                                    c
                                    (IntKind.wrap IntKind.i64 (Int.tmod (IntKind.wrap IntKind.u64 a) 10000))) ==
                              true &&
                            true then
                        true
                      else true)
                      (T.ite none
                        (bif
                            (bif
                                    decide
                                      (leastR
                                          c
                                          (IntKind.wrap IntKind.i64 (Int.tmod (IntKind.wrap IntKind.u64 b) 10000)) ≤
                                        leastR
                                          c
                                          (IntKind.wrap IntKind.i64 (Int.tmod (IntKind.wrap IntKind.u64 a) 10000))) then
                                  decide
                                    (mostR
                                        c
                                        (IntKind.wrap IntKind.i64 (Int.tmod (IntKind.wrap IntKind.u64 b) 10000)) ≤
                                      mostR
                                        c
                                        (IntKind.wrap IntKind.i64 (Int.tmod (IntKind.wrap IntKind.u64 a) 10000)))
                                else false) ==
                                true &&
                              true then
                          true
                        else true)
                        (T.ite none
                          (bif
                              (bif
                                      decide
                                        (leastR
                                            c
                                            (IntKind.wrap IntKind.i64 (Int.tmod (IntKind.wrap IntKind.u64 b) 10000)) ≤
                                          leastR
                                            c
                                            (IntKind.wrap IntKind.i64
                                              (Int.tmod (IntKind.wrap IntKind.u64 a) 10000))) then
                                    decide
                                      (mostR
                                          c
                                          (IntKind.wrap IntKind.i64 (Int.tmod (IntKind.wrap IntKind.u64 b) 10000)) ≤
                                        mostR
                                          c
                                          (IntKind.wrap IntKind.i64 (Int.tmod (IntKind.wrap IntKind.u64 a) 10000)))
                                  else false) ==
                                  true &&
                                true then
                            true
                          else true)
                          (T.ite none
                            (bif
                                (bif
                                        bif
                                            decide
                                              (leastR
                                                  c
                                                  (IntKind.wrap IntKind.i64
                                                    (Int.tmod (IntKind.wrap IntKind.u64 b) 10000)) ≤
                                                leastR
                                                  c
                                                  (IntKind.wrap IntKind.i64
                                                    (Int.tmod (IntKind.wrap IntKind.u64 a) 10000))) then
                                          decide
                                            (mostR
                                                c
                                                (IntKind.wrap IntKind.i64
                                                  (Int.tmod (IntKind.wrap IntKind.u64 b) 10000)) ≤
                                              mostR
                                                c
                                                (IntKind.wrap IntKind.i64
                                                  (Int.tmod (IntKind.wrap IntKind.u64 a) 10000)))
                                        else false then
                                      decide
                                        (limitR
                                            c
                                            (IntKind.wrap IntKind.i64 (Int.tmod (IntKind.wrap IntKind.u64 v) 10000))
                                            (IntKind.wrap IntKind.i64 (Int.tmod (IntKind.wrap IntKind.u64 b) 10000)) ≤
                                          limitR
                                            c
                                            (IntKind.wrap IntKind.i64 (Int.tmod (IntKind.wrap IntKind.u64 w) 10000))
                                            (IntKind.wrap IntKind.i64 (Int.tmod (IntKind.wrap IntKind.u64 b) 10000)))
                                    else false) ==
                                    true &&
                                  true then
                              true
                            else true)
                            (T.ite none
                              (bif
                                  (bif
                                          bif
                                              decide
                                                (leastR
                                                    c
                                                    (IntKind.wrap IntKind.i64
                                                      (Int.tmod (IntKind.wrap IntKind.u64 b) 10000)) ≤
                                                  leastR
                                                    c
                                                    (IntKind.wrap IntKind.i64
                                                      (Int.tmod (IntKind.wrap IntKind.u64 a) 10000))) then
                                            decide
                                              (mostR
                                                  c
                                                  (IntKind.wrap IntKind.i64
                                                    (Int.tmod (IntKind.wrap IntKind.u64 b) 10000)) ≤
                                                mostR
                                                  c
                                                  (IntKind.wrap IntKind.i64
                                                    (Int.tmod (IntKind.wrap IntKind.u64 a) 10000)))
                                          else false then
                                        decide
                                          (limitR
                                              c
                                              (IntKind.wrap IntKind.i64 (Int.tmod (IntKind.wrap IntKind.u64 v) 10000))
                                              (IntKind.wrap IntKind.i64 (Int.tmod (IntKind.wrap IntKind.u64 b) 10000)) ≤
                                            limitR
                                              c
                                              (IntKind.wrap IntKind.i64 (Int.tmod (IntKind.wrap IntKind.u64 w) 10000))
                                              (IntKind.wrap IntKind.i64 (Int.tmod (IntKind.wrap IntKind.u64 b) 10000)))
                                      else false) ==
                                      true &&
                                    true then
                                true
                              else true)
                              (T.ret
                                (V.s
                                  (S.bool
                                    (bif
                                        bif
                                            bif
                                                decide
                                                  (leastR
                                                      c
                                                      (IntKind.wrap IntKind.i64
                                                        (Int.tmod (IntKind.wrap IntKind.u64 b) 10000)) ≤
                                                    leastR
                                                      c
                                                      (IntKind.wrap IntKind.i64
                                                        (Int.tmod (IntKind.wrap IntKind.u64 a) 10000))) then
                                              decide
                                                (mostR
                                                    c
                                                    (IntKind.wrap IntKind.i64
                                                      (Int.tmod (IntKind.wrap IntKind.u64 b) 10000)) ≤
                                                  mostR
                                                    c
                                                    (IntKind.wrap IntKind.i64
                                                      (Int.tmod (IntKind.wrap IntKind.u64 a) 10000)))
                                            else false then
                                          decide
                                            (limitR
                                                c
                                                (IntKind.wrap IntKind.i64 (Int.tmod (IntKind.wrap IntKind.u64 v) 10000))
                                                (IntKind.wrap IntKind.i64
                                                  (Int.tmod (IntKind.wrap IntKind.u64 b) 10000)) ≤
                                              limitR
                                                c
                                                (IntKind.wrap IntKind.i64 (Int.tmod (IntKind.wrap IntKind.u64 w) 10000))
                                                (IntKind.wrap IntKind.i64
                                                  (Int.tmod (IntKind.wrap IntKind.u64 b) 10000)))
                                        else false then
                                      decide
                                        (limitR
                                            c
                                            (IntKind.wrap IntKind.i64 (Int.tmod (IntKind.wrap IntKind.u64 v) 10000))
                                            (IntKind.wrap IntKind.i64 (Int.tmod (IntKind.wrap IntKind.u64 b) 10000)) ≤
                                          limitR
                                            c
                                            (IntKind.wrap IntKind.i64 (Int.tmod (IntKind.wrap IntKind.u64 v) 10000))
                                            (IntKind.wrap IntKind.i64 (Int.tmod (IntKind.wrap IntKind.u64 a) 10000)))
                                    else false))))
                              T.fail)
                            T.fail)
                          T.fail)
                        T.fail)
                      T.fail)
                    T.fail)
                  T.fail)
                T.fail)
              (T.ite none true
                (T.ite none true
                  (T.ite none
                    (bif
                        decide
                              (leastR
                                  c
                                  (IntKind.wrap IntKind.i64 (Int.tmod (IntKind.wrap IntKind.u64 b) 10000)) ≤
                                leastR
                                  c
                                  (IntKind.wrap IntKind.i64 (Int.tmod (IntKind.wrap IntKind.u64 a) 10000))) ==
                            true &&
                          true then
                      true
                    else true)
                    (T.ite none
                      (bif
                          decide
                                (leastR
                                    c
                                    (IntKind.wrap IntKind.i64 (Int.tmod (IntKind.wrap IntKind.u64 b) 10000)) ≤
                                  leastR
                                    c
                                    (IntKind.wrap IntKind.i64 (Int.tmod (IntKind.wrap IntKind.u64 a) 10000))) ==
                              true &&
                            true then
                        true
                      else true)
                      (T.ite none
                        (bif
                            (bif
                                    decide
                                      (leastR
                                          c
                                          (IntKind.wrap IntKind.i64 (Int.tmod (IntKind.wrap IntKind.u64 b) 10000)) ≤
                                        leastR
                                          c
                                          (IntKind.wrap IntKind.i64 (Int.tmod (IntKind.wrap IntKind.u64 a) 10000))) then
                                  decide
                                    (mostR
                                        c
                                        (IntKind.wrap IntKind.i64 (Int.tmod (IntKind.wrap IntKind.u64 b) 10000)) ≤
                                      mostR
                                        c
                                        (IntKind.wrap IntKind.i64 (Int.tmod (IntKind.wrap IntKind.u64 a) 10000)))
                                else false) ==
                                true &&
                              true then
                          true
                        else true)
                        (T.ite none
                          (bif
                              (bif
                                      decide
                                        (leastR
                                            c
                                            (IntKind.wrap IntKind.i64 (Int.tmod (IntKind.wrap IntKind.u64 b) 10000)) ≤
                                          leastR
                                            c
                                            (IntKind.wrap IntKind.i64
                                              (Int.tmod (IntKind.wrap IntKind.u64 a) 10000))) then
                                    decide
                                      (mostR
                                          c
                                          (IntKind.wrap IntKind.i64 (Int.tmod (IntKind.wrap IntKind.u64 b) 10000)) ≤
                                        mostR
                                          c
                                          (IntKind.wrap IntKind.i64 (Int.tmod (IntKind.wrap IntKind.u64 a) 10000)))
                                  else false) ==
                                  true &&
                                true then
                            true
                          else true)
                          (T.ite none
                            (bif
                                (bif
                                        bif
                                            decide
                                              (leastR
                                                  c
                                                  (IntKind.wrap IntKind.i64
                                                    (Int.tmod (IntKind.wrap IntKind.u64 b) 10000)) ≤
                                                leastR
                                                  c
                                                  (IntKind.wrap IntKind.i64
                                                    (Int.tmod (IntKind.wrap IntKind.u64 a) 10000))) then
                                          decide
                                            (mostR
                                                c
                                                (IntKind.wrap IntKind.i64
                                                  (Int.tmod (IntKind.wrap IntKind.u64 b) 10000)) ≤
                                              mostR
                                                c
                                                (IntKind.wrap IntKind.i64
                                                  (Int.tmod (IntKind.wrap IntKind.u64 a) 10000)))
                                        else false then
                                      decide
                                        (limitR
                                            c
                                            (IntKind.wrap IntKind.i64 (Int.tmod (IntKind.wrap IntKind.u64 w) 10000))
                                            (IntKind.wrap IntKind.i64 (Int.tmod (IntKind.wrap IntKind.u64 b) 10000)) ≤
                                          limitR
                                            c
                                            (IntKind.wrap IntKind.i64 (Int.tmod (IntKind.wrap IntKind.u64 v) 10000))
                                            (IntKind.wrap IntKind.i64 (Int.tmod (IntKind.wrap IntKind.u64 b) 10000)))
                                    else false) ==
                                    true &&
                                  true then
                              true
                            else true)
                            (T.ite none
                              (bif
                                  (bif
                                          bif
                                              decide
                                                (leastR
                                                    c
                                                    (IntKind.wrap IntKind.i64
                                                      (Int.tmod (IntKind.wrap IntKind.u64 b) 10000)) ≤
                                                  leastR
                                                    c
                                                    (IntKind.wrap IntKind.i64
                                                      (Int.tmod (IntKind.wrap IntKind.u64 a) 10000))) then
                                            decide
                                              (mostR
                                                  c
                                                  (IntKind.wrap IntKind.i64
                                                    (Int.tmod (IntKind.wrap IntKind.u64 b) 10000)) ≤
                                                mostR
                                                  c
                                                  (IntKind.wrap IntKind.i64
                                                    (Int.tmod (IntKind.wrap IntKind.u64 a) 10000)))
                                          else false then
                                        decide
                                          (limitR
                                              c
                                              (IntKind.wrap IntKind.i64 (Int.tmod (IntKind.wrap IntKind.u64 w) 10000))
                                              (IntKind.wrap IntKind.i64 (Int.tmod (IntKind.wrap IntKind.u64 b) 10000)) ≤
                                            limitR
                                              c
                                              (IntKind.wrap IntKind.i64 (Int.tmod (IntKind.wrap IntKind.u64 v) 10000))
                                              (IntKind.wrap IntKind.i64 (Int.tmod (IntKind.wrap IntKind.u64 b) 10000)))
                                      else false) ==
                                      true &&
                                    true then
                                true
                              else true)
                              (T.ret
                                (V.s
                                  (S.bool
                                    (bif
                                        bif
                                            bif
                                                decide
                                                  (leastR
                                                      c
                                                      (IntKind.wrap IntKind.i64
                                                        (Int.tmod (IntKind.wrap IntKind.u64 b) 10000)) ≤
                                                    leastR
                                                      c
                                                      (IntKind.wrap IntKind.i64
                                                        (Int.tmod (IntKind.wrap IntKind.u64 a) 10000))) then
                                              decide
                                                (mostR
                                                    c
                                                    (IntKind.wrap IntKind.i64
                                                      (Int.tmod (IntKind.wrap IntKind.u64 b) 10000)) ≤
                                                  mostR
                                                    c
                                                    (IntKind.wrap IntKind.i64
                                                      (Int.tmod (IntKind.wrap IntKind.u64 a) 10000)))
                                            else false then
                                          decide
                                            (limitR
                                                c
                                                (IntKind.wrap IntKind.i64 (Int.tmod (IntKind.wrap IntKind.u64 w) 10000))
                                                (IntKind.wrap IntKind.i64
                                                  (Int.tmod (IntKind.wrap IntKind.u64 b) 10000)) ≤
                                              limitR
                                                c
                                                (IntKind.wrap IntKind.i64 (Int.tmod (IntKind.wrap IntKind.u64 v) 10000))
                                                (IntKind.wrap IntKind.i64
                                                  (Int.tmod (IntKind.wrap IntKind.u64 b) 10000)))
                                        else false then
                                      decide
                                        (limitR
                                            c
                                            (IntKind.wrap IntKind.i64 (Int.tmod (IntKind.wrap IntKind.u64 w) 10000))
                                            (IntKind.wrap IntKind.i64 (Int.tmod (IntKind.wrap IntKind.u64 b) 10000)) ≤
                                          limitR
                                            c
                                            (IntKind.wrap IntKind.i64 (Int.tmod (IntKind.wrap IntKind.u64 w) 10000))
                                            (IntKind.wrap IntKind.i64 (Int.tmod (IntKind.wrap IntKind.u64 a) 10000)))
                                    else false))))
                              T.fail)
                            T.fail)
                          T.fail)
                        T.fail)
                      T.fail)
                    T.fail)
                  T.fail)
                T.fail))
            (T.ite none
              (decide
                (IntKind.wrap IntKind.i64 (Int.tmod (IntKind.wrap IntKind.u64 v) 10000) <
                  IntKind.wrap IntKind.i64 (Int.tmod (IntKind.wrap IntKind.u64 w) 10000)))
              (T.ite none true
                (T.ite none true
                  (T.ite none
                    (bif
                        decide
                              (leastR
                                  c
                                  (IntKind.wrap IntKind.i64 (Int.tmod (IntKind.wrap IntKind.u64 a) 10000)) ≤
                                leastR
                                  c
                                  (IntKind.wrap IntKind.i64 (Int.tmod (IntKind.wrap IntKind.u64 b) 10000))) ==
                            true &&
                          true then
                      true
                    else true)
                    (T.ite none
                      (bif
                          decide
                                (leastR
                                    c
                                    (IntKind.wrap IntKind.i64 (Int.tmod (IntKind.wrap IntKind.u64 a) 10000)) ≤
                                  leastR
                                    c
                                    (IntKind.wrap IntKind.i64 (Int.tmod (IntKind.wrap IntKind.u64 b) 10000))) ==
                              true &&
                            true then
                        true
                      else true)
                      (T.ite none
                        (bif
                            (bif
                                    decide
                                      (leastR
                                          c
                                          (IntKind.wrap IntKind.i64 (Int.tmod (IntKind.wrap IntKind.u64 a) 10000)) ≤
                                        leastR
                                          c
                                          (IntKind.wrap IntKind.i64 (Int.tmod (IntKind.wrap IntKind.u64 b) 10000))) then
                                  decide
                                    (mostR
                                        c
                                        (IntKind.wrap IntKind.i64 (Int.tmod (IntKind.wrap IntKind.u64 a) 10000)) ≤
                                      mostR
                                        c
                                        (IntKind.wrap IntKind.i64 (Int.tmod (IntKind.wrap IntKind.u64 b) 10000)))
                                else false) ==
                                true &&
                              true then
                          true
                        else true)
                        (T.ite none
                          (bif
                              (bif
                                      decide
                                        (leastR
                                            c
                                            (IntKind.wrap IntKind.i64 (Int.tmod (IntKind.wrap IntKind.u64 a) 10000)) ≤
                                          leastR
                                            c
                                            (IntKind.wrap IntKind.i64
                                              (Int.tmod (IntKind.wrap IntKind.u64 b) 10000))) then
                                    decide
                                      (mostR
                                          c
                                          (IntKind.wrap IntKind.i64 (Int.tmod (IntKind.wrap IntKind.u64 a) 10000)) ≤
                                        mostR
                                          c
                                          (IntKind.wrap IntKind.i64 (Int.tmod (IntKind.wrap IntKind.u64 b) 10000)))
                                  else false) ==
                                  true &&
                                true then
                            true
                          else true)
                          (T.ite none
                            (bif
                                (bif
                                        bif
                                            decide
                                              (leastR
                                                  c
                                                  (IntKind.wrap IntKind.i64
                                                    (Int.tmod (IntKind.wrap IntKind.u64 a) 10000)) ≤
                                                leastR
                                                  c
                                                  (IntKind.wrap IntKind.i64
                                                    (Int.tmod (IntKind.wrap IntKind.u64 b) 10000))) then
                                          decide
                                            (mostR
                                                c
                                                (IntKind.wrap IntKind.i64
                                                  (Int.tmod (IntKind.wrap IntKind.u64 a) 10000)) ≤
                                              mostR
                                                c
                                                (IntKind.wrap IntKind.i64
                                                  (Int.tmod (IntKind.wrap IntKind.u64 b) 10000)))
                                        else false then
                                      decide
                                        (limitR
                                            c
                                            (IntKind.wrap IntKind.i64 (Int.tmod (IntKind.wrap IntKind.u64 v) 10000))
                                            (IntKind.wrap IntKind.i64 (Int.tmod (IntKind.wrap IntKind.u64 a) 10000)) ≤
                                          limitR
                                            c
                                            (IntKind.wrap IntKind.i64 (Int.tmod (IntKind.wrap IntKind.u64 w) 10000))
                                            (IntKind.wrap IntKind.i64 (Int.tmod (IntKind.wrap IntKind.u64 a) 10000)))
                                    else false) ==
                                    true &&
                                  true then
                              true
                            else true)
                            (T.ite none
                              (bif
                                  (bif
                                          bif
                                              decide
                                                (leastR
                                                    c
                                                    (IntKind.wrap IntKind.i64
                                                      (Int.tmod (IntKind.wrap IntKind.u64 a) 10000)) ≤
                                                  leastR
                                                    c
                                                    (IntKind.wrap IntKind.i64
                                                      (Int.tmod (IntKind.wrap IntKind.u64 b) 10000))) then
                                            decide
                                              (mostR
                                                  c
                                                  (IntKind.wrap IntKind.i64
                                                    (Int.tmod (IntKind.wrap IntKind.u64 a) 10000)) ≤
                                                mostR
                                                  c
                                                  (IntKind.wrap IntKind.i64
                                                    (Int.tmod (IntKind.wrap IntKind.u64 b) 10000)))
                                          else false then
                                        decide
                                          (limitR
                                              c
                                              (IntKind.wrap IntKind.i64 (Int.tmod (IntKind.wrap IntKind.u64 v) 10000))
                                              (IntKind.wrap IntKind.i64 (Int.tmod (IntKind.wrap IntKind.u64 a) 10000)) ≤
                                            limitR
                                              c
                                              (IntKind.wrap IntKind.i64 (Int.tmod (IntKind.wrap IntKind.u64 w) 10000))
                                              (IntKind.wrap IntKind.i64 (Int.tmod (IntKind.wrap IntKind.u64 a) 10000)))
                                      else false) ==
                                      true &&
                                    true then
                                true
                              else true)
                              (T.ret
                                (V.s
                                  (S.bool
                                    (bif
                                        bif
                                            bif
                                                decide
                                                  (leastR
                                                      c
                                                      (IntKind.wrap IntKind.i64
                                                        (Int.tmod (IntKind.wrap IntKind.u64 a) 10000)) ≤
                                                    leastR
                                                      c
                                                      (IntKind.wrap IntKind.i64
                                                        (Int.tmod (IntKind.wrap IntKind.u64 b) 10000))) then
                                              decide
                                                (mostR
                                                    c
                                                    (IntKind.wrap IntKind.i64
                                                      (Int.tmod (IntKind.wrap IntKind.u64 a) 10000)) ≤
                                                  mostR
                                                    c
                                                    (IntKind.wrap IntKind.i64
                                                      (Int.tmod (IntKind.wrap IntKind.u64 b) 10000)))
                                            else false then
                                          decide
                                            (limitR
                                                c
                                                (IntKind.wrap IntKind.i64 (Int.tmod (IntKind.wrap IntKind.u64 v) 10000))
                                                (IntKind.wrap IntKind.i64
                                                  (Int.tmod (IntKind.wrap IntKind.u64 a) 10000)) ≤
                                              limitR
                                                c
                                                (IntKind.wrap IntKind.i64 (Int.tmod (IntKind.wrap IntKind.u64 w) 10000))
                                                (IntKind.wrap IntKind.i64
                                                  (Int.tmod (IntKind.wrap IntKind.u64 a) 10000)))
                                        else false then
                                      decide
                                        (limitR
                                            c
                                            (IntKind.wrap IntKind.i64 (Int.tmod (IntKind.wrap IntKind.u64 v) 10000))
                                            (IntKind.wrap IntKind.i64 (Int.tmod (IntKind.wrap IntKind.u64 a) 10000)) ≤
                                          limitR
                                            c
                                            (IntKind.wrap IntKind.i64 (Int.tmod (IntKind.wrap IntKind.u64 v) 10000))
                                            (IntKind.wrap IntKind.i64 (Int.tmod (IntKind.wrap IntKind.u64 b) 10000)))
                                    else false))))
                              T.fail)
                            T.fail)
                          T.fail)
                        T.fail)
                      T.fail)
                    T.fail)
                  T.fail)
                T.fail)
              (T.ite none true
                (T.ite none true
                  (T.ite none
                    (bif
                        decide
                              (leastR
                                  c
                                  (IntKind.wrap IntKind.i64 (Int.tmod (IntKind.wrap IntKind.u64 a) 10000)) ≤
                                leastR
                                  c
                                  (IntKind.wrap IntKind.i64 (Int.tmod (IntKind.wrap IntKind.u64 b) 10000))) ==
                            true &&
                          true then
                      true
                    else true)
                    (T.ite none
                      (bif
                          decide
                                (leastR
                                    c
                                    (IntKind.wrap IntKind.i64 (Int.tmod (IntKind.wrap IntKind.u64 a) 10000)) ≤
                                  leastR
                                    c
                                    (IntKind.wrap IntKind.i64 (Int.tmod (IntKind.wrap IntKind.u64 b) 10000))) ==
                              true &&
                            true then
                        true
                      else true)
                      (T.ite none
                        (bif
                            (bif
                                    decide
                                      (leastR
                                          c
                                          (IntKind.wrap IntKind.i64 (Int.tmod (IntKind.wrap IntKind.u64 a) 10000)) ≤
                                        leastR
                                          c
                                          (IntKind.wrap IntKind.i64 (Int.tmod (IntKind.wrap IntKind.u64 b) 10000))) then
                                  decide
                                    (mostR
                                        c
                                        (IntKind.wrap IntKind.i64 (Int.tmod (IntKind.wrap IntKind.u64 a) 10000)) ≤
                                      mostR
                                        c
                                        (IntKind.wrap IntKind.i64 (Int.tmod (IntKind.wrap IntKind.u64 b) 10000)))
                                else false) ==
                                true &&
                              true then
                          true
                        else true)
                        (T.ite none
                          (bif
                              (bif
                                      decide
                                        (leastR
                                            c
                                            (IntKind.wrap IntKind.i64 (Int.tmod (IntKind.wrap IntKind.u64 a) 10000)) ≤
                                          leastR
                                            c
                                            (IntKind.wrap IntKind.i64
                                              (Int.tmod (IntKind.wrap IntKind.u64 b) 10000))) then
                                    decide
                                      (mostR
                                          c
                                          (IntKind.wrap IntKind.i64 (Int.tmod (IntKind.wrap IntKind.u64 a) 10000)) ≤
                                        mostR
                                          c
                                          (IntKind.wrap IntKind.i64 (Int.tmod (IntKind.wrap IntKind.u64 b) 10000)))
                                  else false) ==
                                  true &&
                                true then
                            true
                          else true)
                          (T.ite none
                            (bif
                                (bif
                                        bif
                                            decide
                                              (leastR
                                                  c
                                                  (IntKind.wrap IntKind.i64
                                                    (Int.tmod (IntKind.wrap IntKind.u64 a) 10000)) ≤
                                                leastR
                                                  c
                                                  (IntKind.wrap IntKind.i64
                                                    (Int.tmod (IntKind.wrap IntKind.u64 b) 10000))) then
                                          decide
                                            (mostR
                                                c
                                                (IntKind.wrap IntKind.i64
                                                  (Int.tmod (IntKind.wrap IntKind.u64 a) 10000)) ≤
                                              mostR
                                                c
                                                (IntKind.wrap IntKind.i64
                                                  (Int.tmod (IntKind.wrap IntKind.u64 b) 10000)))
                                        else false then
                                      decide
                                        (limitR
                                            c
                                            (IntKind.wrap IntKind.i64 (Int.tmod (IntKind.wrap IntKind.u64 w) 10000))
                                            (IntKind.wrap IntKind.i64 (Int.tmod (IntKind.wrap IntKind.u64 a) 10000)) ≤
                                          limitR
                                            c
                                            (IntKind.wrap IntKind.i64 (Int.tmod (IntKind.wrap IntKind.u64 v) 10000))
                                            (IntKind.wrap IntKind.i64 (Int.tmod (IntKind.wrap IntKind.u64 a) 10000)))
                                    else false) ==
                                    true &&
                                  true then
                              true
                            else true)
                            (T.ite none
                              (bif
                                  (bif
                                          bif
                                              decide
                                                (leastR
                                                    c
                                                    (IntKind.wrap IntKind.i64
                                                      (Int.tmod (IntKind.wrap IntKind.u64 a) 10000)) ≤
                                                  leastR
                                                    c
                                                    (IntKind.wrap IntKind.i64
                                                      (Int.tmod (IntKind.wrap IntKind.u64 b) 10000))) then
                                            decide
                                              (mostR
                                                  c
                                                  (IntKind.wrap IntKind.i64
                                                    (Int.tmod (IntKind.wrap IntKind.u64 a) 10000)) ≤
                                                mostR
                                                  c
                                                  (IntKind.wrap IntKind.i64
                                                    (Int.tmod (IntKind.wrap IntKind.u64 b) 10000)))
                                          else false then
                                        decide
                                          (limitR
                                              c
                                              (IntKind.wrap IntKind.i64 (Int.tmod (IntKind.wrap IntKind.u64 w) 10000))
                                              (IntKind.wrap IntKind.i64 (Int.tmod (IntKind.wrap IntKind.u64 a) 10000)) ≤
                                            limitR
                                              c
                                              (IntKind.wrap IntKind.i64 (Int.tmod (IntKind.wrap IntKind.u64 v) 10000))
                                              (IntKind.wrap IntKind.i64 (Int.tmod (IntKind.wrap IntKind.u64 a) 10000)))
                                      else false) ==
                                      true &&
                                    true then
                                true
                              else true)
                              (T.ret
                                (V.s
                                  (S.bool
                                    (bif
                                        bif
                                            bif
                                                decide
                                                  (leastR
                                                      c
                                                      (IntKind.wrap IntKind.i64
                                                        (Int.tmod (IntKind.wrap IntKind.u64 a) 10000)) ≤
                                                    leastR
                                                      c
                                                      (IntKind.wrap IntKind.i64
                                                        (Int.tmod (IntKind.wrap IntKind.u64 b) 10000))) then
                                              decide
                                                (mostR
                                                    c
                                                    (IntKind.wrap IntKind.i64
                                                      (Int.tmod (IntKind.wrap IntKind.u64 a) 10000)) ≤
                                                  mostR
                                                    c
                                                    (IntKind.wrap IntKind.i64
                                                      (Int.tmod (IntKind.wrap IntKind.u64 b) 10000)))
                                            else false then
                                          decide
                                            (limitR
                                                c
                                                (IntKind.wrap IntKind.i64 (Int.tmod (IntKind.wrap IntKind.u64 w) 10000))
                                                (IntKind.wrap IntKind.i64
                                                  (Int.tmod (IntKind.wrap IntKind.u64 a) 10000)) ≤
                                              limitR
                                                c
                                                (IntKind.wrap IntKind.i64 (Int.tmod (IntKind.wrap IntKind.u64 v) 10000))
                                                (IntKind.wrap IntKind.i64
                                                  (Int.tmod (IntKind.wrap IntKind.u64 a) 10000)))
                                        else false then
                                      decide
                                        (limitR
                                            c
                                            (IntKind.wrap IntKind.i64 (Int.tmod (IntKind.wrap IntKind.u64 w) 10000))
                                            (IntKind.wrap IntKind.i64 (Int.tmod (IntKind.wrap IntKind.u64 a) 10000)) ≤
                                          limitR
                                            c
                                            (IntKind.wrap IntKind.i64 (Int.tmod (IntKind.wrap IntKind.u64 w) 10000))
                                            (IntKind.wrap IntKind.i64 (Int.tmod (IntKind.wrap IntKind.u64 b) 10000)))
                                    else false))))
                              T.fail)
                            T.fail)
                          T.fail)
                        T.fail)
                      T.fail)
                    T.fail)
                  T.fail)
                T.fail)))))))
def rasksT (c : Cf) (a b : Int) : T V := T.ite none true
  (T.ite none true
    (T.ite none
      (bif
          (mostR
                  c
                  b ==
                mostR
                  c
                  b) ==
              true &&
            true then
        true
      else true)
      (T.ite none
        (bif
            (mostR
                    c
                    b ==
                  mostR
                    c
                    b) ==
                true &&
              true then
          true
        else true)
        (T.ite none
          (bif
              (bif
                      mostR
                          c
                          b ==
                        mostR
                          c
                          b then
                    leastR
                        c
                        b ==
                      leastR
                        c
                        b
                  else false) ==
                  true &&
                true then
            true
          else true)
          (T.ite none
            (bif
                (bif
                        mostR
                            c
                            b ==
                          mostR
                            c
                            b then
                      leastR
                          c
                          b ==
                        leastR
                          c
                          b
                    else false) ==
                    true &&
                  true then
              true
            else true)
            (T.ret
              (V.s
                (S.bool
                  (bif
                      bif
                          mostR
                              c
                              b ==
                            mostR
                              c
                              b then
                        leastR
                            c
                            b ==
                          leastR
                            c
                            b
                      else false then
                    limitR
                        c
                        a b ==
                      limitR
                        c
                        a b
                  else false))))
            T.fail)
          T.fail)
        T.fail)
      T.fail)
    T.fail)
  T.fail
def rbetT (c : Cf) (a b : Int) : T V := T.ite none
  (!mayB
      c)
  (T.ret V.tt)
  (T.ite none (10000 == 0) T.fail
    (T.ite none (10000 == 0) T.fail
      (T.ite none true
        (T.ite none true
          (T.ite none true
            (T.ret
              (V.s
                (S.bool
                  (bif
                      bif
                          bif
                              bif
                                  bif
                                      decide
                                        (leastR
                                            c
                                            (IntKind.wrap IntKind.i64 (Int.tmod (IntKind.wrap IntKind.u64 b) 10000)) ≤
                                          IntKind.wrap IntKind.i64 (Int.tmod (IntKind.wrap IntKind.u64 b) 10000)) then
                                    decide
                                      (IntKind.wrap IntKind.i64 (Int.tmod (IntKind.wrap IntKind.u64 b) 10000) <
                                        mostR
                                          c
                                          (IntKind.wrap IntKind.i64 (Int.tmod (IntKind.wrap IntKind.u64 b) 10000)))
                                  else false then
                                bif IntKind.wrap IntKind.i64 (Int.tmod (IntKind.wrap IntKind.u64 b) 10000) == 0 then
                                  true
                                else
                                  decide
                                    (leastR
                                        c
                                        (IntKind.wrap IntKind.i64 (Int.tmod (IntKind.wrap IntKind.u64 b) 10000)) <
                                      IntKind.wrap IntKind.i64 (Int.tmod (IntKind.wrap IntKind.u64 b) 10000))
                              else false then
                            decide
                              (leastR
                                  c
                                  (IntKind.wrap IntKind.i64 (Int.tmod (IntKind.wrap IntKind.u64 b) 10000)) ≤
                                limitR
                                  c
                                  (IntKind.wrap IntKind.i64 (Int.tmod (IntKind.wrap IntKind.u64 a) 10000))
                                  (IntKind.wrap IntKind.i64 (Int.tmod (IntKind.wrap IntKind.u64 b) 10000)))
                          else false then
                        decide
                          (limitR
                              c
                              (IntKind.wrap IntKind.i64 (Int.tmod (IntKind.wrap IntKind.u64 a) 10000))
                              (IntKind.wrap IntKind.i64 (Int.tmod (IntKind.wrap IntKind.u64 b) 10000)) ≤
                            mostR
                              c
                              (IntKind.wrap IntKind.i64 (Int.tmod (IntKind.wrap IntKind.u64 b) 10000)))
                      else false then
                    bif
                        bif
                            decide
                              (IntKind.wrap IntKind.i64 (Int.tmod (IntKind.wrap IntKind.u64 a) 10000) <
                                leastR
                                  c
                                  (IntKind.wrap IntKind.i64 (Int.tmod (IntKind.wrap IntKind.u64 b) 10000))) then
                          true
                        else
                          decide
                            (mostR
                                c
                                (IntKind.wrap IntKind.i64 (Int.tmod (IntKind.wrap IntKind.u64 b) 10000)) <
                              IntKind.wrap IntKind.i64 (Int.tmod (IntKind.wrap IntKind.u64 a) 10000)) then
                      true
                    else
                      limitR
                          c
                          (IntKind.wrap IntKind.i64 (Int.tmod (IntKind.wrap IntKind.u64 a) 10000))
                          (IntKind.wrap IntKind.i64 (Int.tmod (IntKind.wrap IntKind.u64 b) 10000)) ==
                        IntKind.wrap IntKind.i64 (Int.tmod (IntKind.wrap IntKind.u64 a) 10000)
                  else false))))
            T.fail)
          T.fail)
        T.fail)))
end Go.Proofs.Ytdkebjdhpioehaa.Conf
