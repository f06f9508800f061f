/- Trees as the machine prints them. -/
import Derived.Test.YtdkebjdhpioehaaWantC
import Derived.Test.YtdkebjdhpioehaaYes
namespace Go.Proofs.Ytdkebjdhpioehaa.Conf
open Go.Eng Go.RowKit Mil
set_option linter.unusedVariables false
set_option maxRecDepth 100000
def asksT (c : Cf) (a b d : Int) : T V := T.ite none
  (inC
      c &&
    inR a)
  (T.ite none
    (inC
        c &&
      inR a)
    (T.ite none
      (bif
          (ofC
                  c
                  a ==
                ofC
                  c
                  a) ==
              true &&
            true then
        inC
          c
      else true)
      (T.ite none
        (bif
            (ofC
                    c
                    a ==
                  ofC
                    c
                    a) ==
                true &&
              true then
          inC
            c
        else true)
        (T.ret
          (V.s
            (S.bool
              (bif
                  ofC
                      c
                      a ==
                    ofC
                      c
                      a then
                overC
                    c
                    b d ==
                  overC
                    c
                    b d
              else false))))
        T.fail)
      T.fail)
    T.fail)
  T.fail
def fitsT (c : Cf) (a : Int) : T V := T.ite none
  (!mayB
      c)
  (T.ret V.tt)
  (T.ite none (1000000000 == 0) T.fail
    (T.ite none
      (inC
          c &&
        inR (IntKind.wrap IntKind.i64 (Int.tmod (IntKind.wrap IntKind.u64 a) 1000000000)))
      (T.ite none (1000 == 0) T.fail
        (T.ite none
          (ofC
              c
              (IntKind.wrap IntKind.i64 (Int.tmod (IntKind.wrap IntKind.u64 a) 1000000000)) ==
            1000000)
          (T.ret
            (V.s
              (S.bool
                (decide
                  (IntKind.wrap IntKind.i64
                      (IntKind.wrap IntKind.i64
                          (ofC
                              c
                              (IntKind.wrap IntKind.i64 (Int.tmod (IntKind.wrap IntKind.u64 a) 1000000000)) -
                            1) *
                        if
                            1 >
                              IntKind.wrap IntKind.i64
                                (Int.tdiv (IntKind.wrap IntKind.i64 (Cf.target c * Cf.util c)) 1000) then
                          1
                        else
                          IntKind.wrap IntKind.i64
                            (Int.tdiv (IntKind.wrap IntKind.i64 (Cf.target c * Cf.util c)) 1000)) <
                    IntKind.wrap IntKind.i64 (Int.tmod (IntKind.wrap IntKind.u64 a) 1000000000))))))
          (T.ret
            (V.s
              (S.bool
                (bif
                    decide
                      (IntKind.wrap IntKind.i64 (Int.tmod (IntKind.wrap IntKind.u64 a) 1000000000) ≤
                        IntKind.wrap IntKind.i64
                          (ofC
                              c
                              (IntKind.wrap IntKind.i64 (Int.tmod (IntKind.wrap IntKind.u64 a) 1000000000)) *
                            if
                                1 >
                                  IntKind.wrap IntKind.i64
                                    (Int.tdiv (IntKind.wrap IntKind.i64 (Cf.target c * Cf.util c)) 1000) then
                              1
                            else
                              IntKind.wrap IntKind.i64
                                (Int.tdiv (IntKind.wrap IntKind.i64 (Cf.target c * Cf.util c)) 1000))) then
                  bif
                      ofC
                          c
                          (IntKind.wrap IntKind.i64 (Int.tmod (IntKind.wrap IntKind.u64 a) 1000000000)) ==
                        0 then
                    true
                  else
                    decide
                      (IntKind.wrap IntKind.i64
                          (IntKind.wrap IntKind.i64
                              (ofC
                                  c
                                  (IntKind.wrap IntKind.i64 (Int.tmod (IntKind.wrap IntKind.u64 a) 1000000000)) -
                                1) *
                            if
                                1 >
                                  IntKind.wrap IntKind.i64
                                    (Int.tdiv (IntKind.wrap IntKind.i64 (Cf.target c * Cf.util c)) 1000) then
                              1
                            else
                              IntKind.wrap IntKind.i64
                                (Int.tdiv (IntKind.wrap IntKind.i64 (Cf.target c * Cf.util c)) 1000)) <
                        IntKind.wrap IntKind.i64 (Int.tmod (IntKind.wrap IntKind.u64 a) 1000000000))
                else false))))))
      T.fail))
def moreT (c : Cf) (a b w r m : Int) : T V := T.ite none (decide (b < a))
  (T.ite none (1000 == 0) T.fail
    (T.ite none (1000 == 0) T.fail
      (T.ite none
        (inC
            c &&
          inR b)
        (T.ite none
          (inC
              c &&
            inR a)
          (T.ite none
            (bif
                decide
                      (ofC
                          c
                          b ≤
                        ofC
                          c
                          a) ==
                    true &&
                  true then
              inC
                c
            else true)
            (T.ite none
              (bif
                  decide
                        (ofC
                            c
                            b ≤
                          ofC
                            c
                            a) ==
                      true &&
                    ((!overC
                            c
                            w
                            (IntKind.wrap IntKind.i64
                              (IntKind.wrap IntKind.i64 (Int.tmod (IntKind.wrap IntKind.u64 r) 1000) +
                                IntKind.wrap IntKind.i64 (Int.tmod (IntKind.wrap IntKind.u64 m) 1000)))) ==
                        false &&
                      true) then
                inC
                  c
              else true)
              (T.ret
                (V.s
                  (S.bool
                    (bif
                        decide
                          (ofC
                              c
                              b ≤
                            ofC
                              c
                              a) then
                      bif
                          !overC
                              c
                              w
                              (IntKind.wrap IntKind.i64
                                (IntKind.wrap IntKind.i64 (Int.tmod (IntKind.wrap IntKind.u64 r) 1000) +
                                  IntKind.wrap IntKind.i64 (Int.tmod (IntKind.wrap IntKind.u64 m) 1000))) then
                        true
                      else
                        overC
                          c
                          w (IntKind.wrap IntKind.i64 (Int.tmod (IntKind.wrap IntKind.u64 r) 1000))
                    else false))))
              T.fail)
            T.fail)
          T.fail)
        T.fail)))
  (T.ite none (1000 == 0) T.fail
    (T.ite none (1000 == 0) T.fail
      (T.ite none
        (inC
            c &&
          inR a)
        (T.ite none
          (inC
              c &&
            inR b)
          (T.ite none
            (bif
                decide
                      (ofC
                          c
                          a ≤
                        ofC
                          c
                          b) ==
                    true &&
                  true then
              inC
                c
            else true)
            (T.ite none
              (bif
                  decide
                        (ofC
                            c
                            a ≤
                          ofC
                            c
                            b) ==
                      true &&
                    ((!overC
                            c
                            w
                            (IntKind.wrap IntKind.i64
                              (IntKind.wrap IntKind.i64 (Int.tmod (IntKind.wrap IntKind.u64 r) 1000) +
                                IntKind.wrap IntKind.i64 (Int.tmod (IntKind.wrap IntKind.u64 m) 1000)))) ==
                        false &&
                      true) then
                inC
                  c
              else true)
              (T.ret
                (V.s
                  (S.bool
                    (bif
                        decide
                          (ofC
                              c
                              a ≤
                            ofC
                              c
                              b) then
                      bif
                          !overC
                              c
                              w
                              (IntKind.wrap IntKind.i64
                                (IntKind.wrap IntKind.i64 (Int.tmod (IntKind.wrap IntKind.u64 r) 1000) +
                                  IntKind.wrap IntKind.i64 (Int.tmod (IntKind.wrap IntKind.u64 m) 1000))) then
                        true
                      else
                        overC
                          c
                          w (IntKind.wrap IntKind.i64 (Int.tmod (IntKind.wrap IntKind.u64 r) 1000))
                    else false))))
              T.fail)
            T.fail)
          T.fail)
        T.fail)))
def stepsT (c : Cf) (n p : Int) : T V := T.ite none
  (!mayB
      c)
  (T.ret V.tt)
  (T.ite none (1000 == 0) T.fail
    (T.ite none (inR (Cf.target c) && inR (Cf.util c))
      (T.ite none
        (IntKind.wrap IntKind.u64
            (perC
              c) ==
          0)
        T.fail
        (T.ite none
          (decide
            (0 <
              IntKind.wrap IntKind.i64
                (Int.tmod (IntKind.wrap IntKind.u64 p)
                  (IntKind.wrap IntKind.u64
                    (perC
                      c)))))
          (T.ite none
            (inC
                c &&
              inR
                (IntKind.wrap IntKind.i64
                  (IntKind.wrap IntKind.i64
                      (IntKind.wrap IntKind.i64 (Int.tmod (IntKind.wrap IntKind.u64 n) 1000) *
                        perC
                          c) +
                    IntKind.wrap IntKind.i64
                      (Int.tmod (IntKind.wrap IntKind.u64 p)
                        (IntKind.wrap IntKind.u64
                          (perC
                            c))))))
            (T.ite none
              (bif
                  (ofC
                          c
                          (IntKind.wrap IntKind.i64
                            (IntKind.wrap IntKind.i64
                                (IntKind.wrap IntKind.i64 (Int.tmod (IntKind.wrap IntKind.u64 n) 1000) *
                                  perC
                                    c) +
                              IntKind.wrap IntKind.i64
                                (Int.tmod (IntKind.wrap IntKind.u64 p)
                                  (IntKind.wrap IntKind.u64
                                    (perC
                                      c))))) ==
                        IntKind.wrap IntKind.i64
                          (IntKind.wrap IntKind.i64 (Int.tmod (IntKind.wrap IntKind.u64 n) 1000) + 1)) ==
                      true &&
                    true then
                inC
                    c &&
                  inR
                    (IntKind.wrap IntKind.i64
                      (IntKind.wrap IntKind.i64 (Int.tmod (IntKind.wrap IntKind.u64 n) 1000) *
                        perC
                          c))
              else true)
              (T.ret
                (V.s
                  (S.bool
                    (bif
                        ofC
                            c
                            (IntKind.wrap IntKind.i64
                              (IntKind.wrap IntKind.i64
                                  (IntKind.wrap IntKind.i64 (Int.tmod (IntKind.wrap IntKind.u64 n) 1000) *
                                    perC
                                      c) +
                                IntKind.wrap IntKind.i64
                                  (Int.tmod (IntKind.wrap IntKind.u64 p)
                                    (IntKind.wrap IntKind.u64
                                      (perC
                                        c))))) ==
                          IntKind.wrap IntKind.i64
                            (IntKind.wrap IntKind.i64 (Int.tmod (IntKind.wrap IntKind.u64 n) 1000) + 1) then
                      ofC
                          c
                          (IntKind.wrap IntKind.i64
                            (IntKind.wrap IntKind.i64 (Int.tmod (IntKind.wrap IntKind.u64 n) 1000) *
                              perC
                                c)) ==
                        IntKind.wrap IntKind.i64 (Int.tmod (IntKind.wrap IntKind.u64 n) 1000)
                    else false))))
              T.fail)
            T.fail)
          (T.ite none
            (inC
                c &&
              inR
                (IntKind.wrap IntKind.i64
                  (IntKind.wrap IntKind.i64
                      (IntKind.wrap IntKind.i64 (Int.tmod (IntKind.wrap IntKind.u64 n) 1000) *
                        perC
                          c) +
                    IntKind.wrap IntKind.i64
                      (Int.tmod (IntKind.wrap IntKind.u64 p)
                        (IntKind.wrap IntKind.u64
                          (perC
                            c))))))
            (T.ite none
              (bif
                  (ofC
                          c
                          (IntKind.wrap IntKind.i64
                            (IntKind.wrap IntKind.i64
                                (IntKind.wrap IntKind.i64 (Int.tmod (IntKind.wrap IntKind.u64 n) 1000) *
                                  perC
                                    c) +
                              IntKind.wrap IntKind.i64
                                (Int.tmod (IntKind.wrap IntKind.u64 p)
                                  (IntKind.wrap IntKind.u64
                                    (perC
                                      c))))) ==
                        IntKind.wrap IntKind.i64 (Int.tmod (IntKind.wrap IntKind.u64 n) 1000)) ==
                      true &&
                    true then
                inC
                    c &&
                  inR
                    (IntKind.wrap IntKind.i64
                      (IntKind.wrap IntKind.i64 (Int.tmod (IntKind.wrap IntKind.u64 n) 1000) *
                        perC
                          c))
              else true)
              (T.ret
                (V.s
                  (S.bool
                    (bif
                        ofC
                            c
                            (IntKind.wrap IntKind.i64
                              (IntKind.wrap IntKind.i64
                                  (IntKind.wrap IntKind.i64 (Int.tmod (IntKind.wrap IntKind.u64 n) 1000) *
                                    perC
                                      c) +
                                IntKind.wrap IntKind.i64
                                  (Int.tmod (IntKind.wrap IntKind.u64 p)
                                    (IntKind.wrap IntKind.u64
                                      (perC
                                        c))))) ==
                          IntKind.wrap IntKind.i64 (Int.tmod (IntKind.wrap IntKind.u64 n) 1000) then
                      ofC
                          c
                          (IntKind.wrap IntKind.i64
                            (IntKind.wrap IntKind.i64 (Int.tmod (IntKind.wrap IntKind.u64 n) 1000) *
                              perC
                                c)) ==
                        IntKind.wrap IntKind.i64 (Int.tmod (IntKind.wrap IntKind.u64 n) 1000)
                    else false))))
              T.fail)
            T.fail)))
      T.fail))
def suddenT (r : Int) : T V := T.ite none (1001 == 0) T.fail
  (T.ite none
    (inC
      dflt)
    (T.ite none
      (bif
          overC
                dflt
                (IntKind.wrap IntKind.i64
                  (2 *
                    if 1 > IntKind.wrap IntKind.i64 (Int.tmod (IntKind.wrap IntKind.u64 r) 1001) then 1
                    else IntKind.wrap IntKind.i64 (Int.tmod (IntKind.wrap IntKind.u64 r) 1001)))
                (IntKind.wrap IntKind.i64 (Int.tmod (IntKind.wrap IntKind.u64 r) 1001)) ==
              true &&
            true then
        inC
          dflt
      else true)
      (T.ite none
        (bif
            (bif
                    overC
                      dflt
                      (IntKind.wrap IntKind.i64
                        (2 *
                          if 1 > IntKind.wrap IntKind.i64 (Int.tmod (IntKind.wrap IntKind.u64 r) 1001) then 1
                          else IntKind.wrap IntKind.i64 (Int.tmod (IntKind.wrap IntKind.u64 r) 1001)))
                      (IntKind.wrap IntKind.i64 (Int.tmod (IntKind.wrap IntKind.u64 r) 1001)) then
                  !overC
                      dflt
                      (IntKind.wrap IntKind.i64
                        (IntKind.wrap IntKind.i64
                            (2 *
                              if 1 > IntKind.wrap IntKind.i64 (Int.tmod (IntKind.wrap IntKind.u64 r) 1001) then 1
                              else IntKind.wrap IntKind.i64 (Int.tmod (IntKind.wrap IntKind.u64 r) 1001)) -
                          1))
                      (IntKind.wrap IntKind.i64 (Int.tmod (IntKind.wrap IntKind.u64 r) 1001))
                else false) ==
                true &&
              true then
          inC
            dflt
        else true)
        (T.ret
          (V.s
            (S.bool
              (bif
                  bif
                      overC
                        dflt
                        (IntKind.wrap IntKind.i64
                          (2 *
                            if 1 > IntKind.wrap IntKind.i64 (Int.tmod (IntKind.wrap IntKind.u64 r) 1001) then 1
                            else IntKind.wrap IntKind.i64 (Int.tmod (IntKind.wrap IntKind.u64 r) 1001)))
                        (IntKind.wrap IntKind.i64 (Int.tmod (IntKind.wrap IntKind.u64 r) 1001)) then
                    !overC
                        dflt
                        (IntKind.wrap IntKind.i64
                          (IntKind.wrap IntKind.i64
                              (2 *
                                if 1 > IntKind.wrap IntKind.i64 (Int.tmod (IntKind.wrap IntKind.u64 r) 1001) then 1
                                else IntKind.wrap IntKind.i64 (Int.tmod (IntKind.wrap IntKind.u64 r) 1001)) -
                            1))
                        (IntKind.wrap IntKind.i64 (Int.tmod (IntKind.wrap IntKind.u64 r) 1001))
                  else false then
                overC
                  dflt
                  (IntKind.wrap IntKind.i64
                    (IntKind.wrap IntKind.i64
                        (2 *
                          if 1 > IntKind.wrap IntKind.i64 (Int.tmod (IntKind.wrap IntKind.u64 r) 1001) then 1
                          else IntKind.wrap IntKind.i64 (Int.tmod (IntKind.wrap IntKind.u64 r) 1001)) +
                      1))
                  (IntKind.wrap IntKind.i64 (Int.tmod (IntKind.wrap IntKind.u64 r) 1001))
              else false))))
        T.fail)
      T.fail)
    T.fail)
end Go.Proofs.Ytdkebjdhpioehaa.Conf
