/-
  What package kdf must say, all of it.
-/
import Derived.Test.YtkpaldkmikjpiaaDoorKdfKey
import Derived.Test.YtkpaldkmikjpiaaDoorKdfExpand
import Derived.Test.YtkpaldkmikjpiaaDoorKdfCalls
namespace Go.Proofs.YtkpaldkmikjpiaaDoor

theorem key_ok : KkeyOk := key_any expand_any
theorem step_ok : KstepOk := step_any key_ok
theorem mac_ok : KmacOk := mac_any key_ok
theorem own_ok : KownOk := own_any key_ok
theorem pair_ok : KpairOk := pair_any key_ok
theorem awake_ok : KawakeOk := awake4 step_ok
end Go.Proofs.YtkpaldkmikjpiaaDoor
