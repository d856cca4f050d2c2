/- MEMORY: bytes made into a string. Of every seat that has []uint8 and string. -/
import Derived.Test.YtclgcfofgiejgaaDoorKa
import Derived.Lib.Strings
namespace Go.Proofs.YtclgcfofgiejgaaDoor
set_option maxRecDepth 100000
open Go.RowKit
set_option linter.unusedVariables false

/-- the string of some bytes -/
def str (l : List UInt8) : ByteArray := ⟨l.toArray⟩
theorem str_toList (l : List UInt8) : (str l).toList = l := by rw [Lib.toList_data]; rfl
theorem str_size (l : List UInt8) : (str l).size = l.length := rfl
theorem nums_str (l : List UInt8) : strOfNums (l.map fun b => (b.toNat : Int)) = str l := by
  unfold strOfNums str
  rw [List.map_map]
  have e : ((fun n : Int => UInt8.ofNat n.toNat) ∘ fun b : UInt8 => (b.toNat : Int)) = id := by
    funext b; simp
  rw [e, List.map_id]
theorem conv_bytes (w : World) (b off cap : Nat) (l : List UInt8) (B : Nat) (hr : RB w B (some ⟨b, off, none⟩) l) (n : Nat) (hn : l.length = n) :
    (convert 29 9 (.slice (some ⟨b, off, none⟩) n cap)).run Tryd.prog w = .ok (.string (str l)) w := by
  rw [← nums_str]
  refine run_convert_bytes_arg w 29 5 Tryd.underlying29 Tryd.underlying5 b off n cap (l.map fun b => (b.toNat : Int)) (by simp [hn]) (fun i hi => ?_) 9 Tryd.underlying9
  obtain ⟨b', off', e, _, hc⟩ := hr (by omega)
  injection e with e
  injection e with e1 e2
  subst e1 e2
  rw [hc i (by omega)]
  simp [vb, List.getD, show i < l.length by omega]
end Go.Proofs.YtclgcfofgiejgaaDoor
