/-
  No cell of these rows narrows 'for every input' (looked for: loops, veiled, ifaces, maps, wideKeys, modest, calm, conditions, laid).
  DERIVED. THE GIVEN ROWS OF THIS SEAT. 9 by the template 'for every input the law returns true; each argument reads behind the call as it read before'; 0 by the template 'total and deterministic' (their statements: YtcnjekballnncaaTotals.lean).
  GIVEN WITH THE SEED: the statements are not yours to turn. If you find one false, say at which input.
  Laid BY PROGRAM, IN A SANDBOX (cutbox-rows.mjs): the forced cells as the released guide's own fill.sh prints them over the translation a4d35a47b7220bfe… (all of the seat's roots in one cut). By AI agents, Wed Nov 11 2026. No macro, syntax, notation, axiom, sorry.
-/
import Derived.Test.YtcnjekballnncaaChecked
import GoSem.Claim
import GoSem.ClaimJoined
import GoSem.ClaimMapViews
import Derived.JoinedTies
import Derived.KernelRfl
namespace Go.Proofs.Ytcnjekballnncaa
/- THE CELL 'sum', in the pinned program and in every row, IS THE sha256 OF THE DUMP (.gsa) THAT YtcnjekballnncaaProg.lean LOADS. Nothing in Lean hashes anything: it is a label: what it is worth is what the hold of that sum in a sandbox is worth. -/
noncomputable def Try.pinned : Pinned := { name := "ytcnjekballnncaa", sum := "a4d35a47b7220bfe27ec7e2ebf7c5b60f3b502fbf2e982e6a46220acc5f9abdd", checked := Try.checked }
namespace Rows
def none {H : Type} : Left H := { results := [], args := [] }

/-- 'gannetlaw13.NoiseSteps': WHATEVER THE INPUT: true; the input reads as it did. -/
def noiseStepsSpec : ChangeSpec := { name := "noiseSteps", fn := fun _ => fun
  | [d1, d2] => { results := [.lit (.bool true)], args := [d1, d2] }
  | _ => none }
def noiseStepsRow : OpenClaim := { program := "ytcnjekballnncaa", sum := "a4d35a47b7220bfe27ec7e2ebf7c5b60f3b502fbf2e982e6a46220acc5f9abdd", func := "gannet/gannetlaw13.NoiseSteps", spec := "noiseSteps", unfollowed := true, recurses := true, apart := false }
def NoiseStepsSaid : Prop := noiseStepsRow.holds Try.pinned (OpenSpec.ofChange noiseStepsSpec)

/-- ITS FALSE NEIGHBOUR: 'it returns false'. Refute it at one input. -/
def noiseStepsWrong : ChangeSpec := { name := "noiseSteps", fn := fun _ => fun
  | [d1, d2] => { results := [.lit (.bool false)], args := [d1, d2] }
  | _ => none }
def NoiseStepsWrongFalsely : Prop := noiseStepsRow.holds Try.pinned (OpenSpec.ofChange noiseStepsWrong)

/-- 'gannetlaw13.NoiseJumps': WHATEVER THE INPUT: true; the input reads as it did. -/
def noiseJumpsSpec : ChangeSpec := { name := "noiseJumps", fn := fun _ => fun
  | [d1, d2, d3] => { results := [.lit (.bool true)], args := [d1, d2, d3] }
  | _ => none }
def noiseJumpsRow : OpenClaim := { program := "ytcnjekballnncaa", sum := "a4d35a47b7220bfe27ec7e2ebf7c5b60f3b502fbf2e982e6a46220acc5f9abdd", func := "gannet/gannetlaw13.NoiseJumps", spec := "noiseJumps", unfollowed := true, recurses := true, apart := false }
def NoiseJumpsSaid : Prop := noiseJumpsRow.holds Try.pinned (OpenSpec.ofChange noiseJumpsSpec)

/-- ITS FALSE NEIGHBOUR: 'it returns false'. Refute it at one input. -/
def noiseJumpsWrong : ChangeSpec := { name := "noiseJumps", fn := fun _ => fun
  | [d1, d2, d3] => { results := [.lit (.bool false)], args := [d1, d2, d3] }
  | _ => none }
def NoiseJumpsWrongFalsely : Prop := noiseJumpsRow.holds Try.pinned (OpenSpec.ofChange noiseJumpsWrong)

/-- 'gannetlaw13.NoiseLinear': WHATEVER THE INPUT: true; the input reads as it did. -/
def noiseLinearSpec : ChangeSpec := { name := "noiseLinear", fn := fun _ => fun
  | [d1, d2, d3] => { results := [.lit (.bool true)], args := [d1, d2, d3] }
  | _ => none }
def noiseLinearRow : OpenClaim := { program := "ytcnjekballnncaa", sum := "a4d35a47b7220bfe27ec7e2ebf7c5b60f3b502fbf2e982e6a46220acc5f9abdd", func := "gannet/gannetlaw13.NoiseLinear", spec := "noiseLinear", unfollowed := true, recurses := true, apart := false }
def NoiseLinearSaid : Prop := noiseLinearRow.holds Try.pinned (OpenSpec.ofChange noiseLinearSpec)

/-- ITS FALSE NEIGHBOUR: 'it returns false'. Refute it at one input. -/
def noiseLinearWrong : ChangeSpec := { name := "noiseLinear", fn := fun _ => fun
  | [d1, d2, d3] => { results := [.lit (.bool false)], args := [d1, d2, d3] }
  | _ => none }
def NoiseLinearWrongFalsely : Prop := noiseLinearRow.holds Try.pinned (OpenSpec.ofChange noiseLinearWrong)

/-- 'gannetlaw13.NoiseGoes': WHATEVER THE INPUT: true; the input reads as it did. -/
def noiseGoesSpec : ChangeSpec := { name := "noiseGoes", fn := fun _ => fun
  | [d1, d2, d3] => { results := [.lit (.bool true)], args := [d1, d2, d3] }
  | _ => none }
def noiseGoesRow : OpenClaim := { program := "ytcnjekballnncaa", sum := "a4d35a47b7220bfe27ec7e2ebf7c5b60f3b502fbf2e982e6a46220acc5f9abdd", func := "gannet/gannetlaw13.NoiseGoes", spec := "noiseGoes", unfollowed := true, recurses := true, apart := false }
def NoiseGoesSaid : Prop := noiseGoesRow.holds Try.pinned (OpenSpec.ofChange noiseGoesSpec)

/-- ITS FALSE NEIGHBOUR: 'it returns false'. Refute it at one input. -/
def noiseGoesWrong : ChangeSpec := { name := "noiseGoes", fn := fun _ => fun
  | [d1, d2, d3] => { results := [.lit (.bool false)], args := [d1, d2, d3] }
  | _ => none }
def NoiseGoesWrongFalsely : Prop := noiseGoesRow.holds Try.pinned (OpenSpec.ofChange noiseGoesWrong)

/-- 'gannetlaw13.NoiseFar': WHATEVER THE INPUT: true; the input reads as it did. -/
def noiseFarSpec : ChangeSpec := { name := "noiseFar", fn := fun _ => fun
  | [d1, d2, d3] => { results := [.lit (.bool true)], args := [d1, d2, d3] }
  | _ => none }
def noiseFarRow : OpenClaim := { program := "ytcnjekballnncaa", sum := "a4d35a47b7220bfe27ec7e2ebf7c5b60f3b502fbf2e982e6a46220acc5f9abdd", func := "gannet/gannetlaw13.NoiseFar", spec := "noiseFar", unfollowed := true, recurses := true, apart := false }
def NoiseFarSaid : Prop := noiseFarRow.holds Try.pinned (OpenSpec.ofChange noiseFarSpec)

/-- ITS FALSE NEIGHBOUR: 'it returns false'. Refute it at one input. -/
def noiseFarWrong : ChangeSpec := { name := "noiseFar", fn := fun _ => fun
  | [d1, d2, d3] => { results := [.lit (.bool false)], args := [d1, d2, d3] }
  | _ => none }
def NoiseFarWrongFalsely : Prop := noiseFarRow.holds Try.pinned (OpenSpec.ofChange noiseFarWrong)

/-- 'gannetlaw14.WavePlays': WHATEVER THE INPUT: true; the input reads as it did. -/
def wavePlaysSpec : ChangeSpec := { name := "wavePlays", fn := fun _ => fun
  | [d1, d2] => { results := [.lit (.bool true)], args := [d1, d2] }
  | _ => none }
def wavePlaysRow : OpenClaim := { program := "ytcnjekballnncaa", sum := "a4d35a47b7220bfe27ec7e2ebf7c5b60f3b502fbf2e982e6a46220acc5f9abdd", func := "gannet/gannetlaw14.WavePlays", spec := "wavePlays", unfollowed := true, recurses := true, apart := false }
def WavePlaysSaid : Prop := wavePlaysRow.holds Try.pinned (OpenSpec.ofChange wavePlaysSpec)

/-- ITS FALSE NEIGHBOUR: 'it returns false'. Refute it at one input. -/
def wavePlaysWrong : ChangeSpec := { name := "wavePlays", fn := fun _ => fun
  | [d1, d2] => { results := [.lit (.bool false)], args := [d1, d2] }
  | _ => none }
def WavePlaysWrongFalsely : Prop := wavePlaysRow.holds Try.pinned (OpenSpec.ofChange wavePlaysWrong)

/-- 'gannetlaw14.WaveParts': WHATEVER THE INPUT: true; the input reads as it did. -/
def wavePartsSpec : ChangeSpec := { name := "waveParts", fn := fun _ => fun
  | [d1, d2, d3] => { results := [.lit (.bool true)], args := [d1, d2, d3] }
  | _ => none }
def wavePartsRow : OpenClaim := { program := "ytcnjekballnncaa", sum := "a4d35a47b7220bfe27ec7e2ebf7c5b60f3b502fbf2e982e6a46220acc5f9abdd", func := "gannet/gannetlaw14.WaveParts", spec := "waveParts", unfollowed := true, recurses := true, apart := false }
def WavePartsSaid : Prop := wavePartsRow.holds Try.pinned (OpenSpec.ofChange wavePartsSpec)

/-- ITS FALSE NEIGHBOUR: 'it returns false'. Refute it at one input. -/
def wavePartsWrong : ChangeSpec := { name := "waveParts", fn := fun _ => fun
  | [d1, d2, d3] => { results := [.lit (.bool false)], args := [d1, d2, d3] }
  | _ => none }
def WavePartsWrongFalsely : Prop := wavePartsRow.holds Try.pinned (OpenSpec.ofChange wavePartsWrong)

/-- 'gannetlaw14.WaveRound': WHATEVER THE INPUT: true; the input reads as it did. -/
def waveRoundSpec : ChangeSpec := { name := "waveRound", fn := fun _ => fun
  | [d1, d2] => { results := [.lit (.bool true)], args := [d1, d2] }
  | _ => none }
def waveRoundRow : OpenClaim := { program := "ytcnjekballnncaa", sum := "a4d35a47b7220bfe27ec7e2ebf7c5b60f3b502fbf2e982e6a46220acc5f9abdd", func := "gannet/gannetlaw14.WaveRound", spec := "waveRound", unfollowed := true, recurses := true, apart := false }
def WaveRoundSaid : Prop := waveRoundRow.holds Try.pinned (OpenSpec.ofChange waveRoundSpec)

/-- ITS FALSE NEIGHBOUR: 'it returns false'. Refute it at one input. -/
def waveRoundWrong : ChangeSpec := { name := "waveRound", fn := fun _ => fun
  | [d1, d2] => { results := [.lit (.bool false)], args := [d1, d2] }
  | _ => none }
def WaveRoundWrongFalsely : Prop := waveRoundRow.holds Try.pinned (OpenSpec.ofChange waveRoundWrong)

/-- 'gannettop.TopNoisy': WHATEVER THE INPUT: true; the input reads as it did. -/
def topNoisySpec : ChangeSpec := { name := "topNoisy", fn := fun _ => fun
  | [d1, d2, d3] => { results := [.lit (.bool true)], args := [d1, d2, d3] }
  | _ => none }
def topNoisyRow : OpenClaim := { program := "ytcnjekballnncaa", sum := "a4d35a47b7220bfe27ec7e2ebf7c5b60f3b502fbf2e982e6a46220acc5f9abdd", func := "gannet/gannettop.TopNoisy", spec := "topNoisy", unfollowed := true, recurses := true, apart := false }
def TopNoisySaid : Prop := topNoisyRow.holds Try.pinned (OpenSpec.ofChange topNoisySpec)

/-- ITS FALSE NEIGHBOUR: 'it returns false'. Refute it at one input. -/
def topNoisyWrong : ChangeSpec := { name := "topNoisy", fn := fun _ => fun
  | [d1, d2, d3] => { results := [.lit (.bool false)], args := [d1, d2, d3] }
  | _ => none }
def TopNoisyWrongFalsely : Prop := topNoisyRow.holds Try.pinned (OpenSpec.ofChange topNoisyWrong)

/- THE SECOND FORM. 'bulk': how many values and letters a reading holds, each counted each time it is reached (what is shared counts as often as it is met; a slice's spare places count too). A statement '..UptoSaid' is the law's where the arguments, and the package variables that the reading takes, are together of bulk at most 1048576: NARROWER than '..Said'. Prove '..Said' where nothing that the law and all that it calls make is longer than what came in: it says more and counts as full. Else prove '..UptoSaid'. A law counts once. -/
mutual
def uptoBulk {H : Type} : DataW H → Nat
  | .lit (.string bytes) => bytes.length + 1
  | .lit _ => 1
  | .nil => 1
  | .ptr d => uptoBulk d + 1
  | .slice elems spare => uptoBulkAll elems + uptoBulkAll spare + 1
  | .agg parts => uptoBulkAll parts + 1
  | .iface _ d => uptoBulk d + 1
  | .map entries => uptoBulkEntries entries + 1
  | .held _ => 1
def uptoBulkAll {H : Type} : List (DataW H) → Nat
  | [] => 0
  | d :: r => uptoBulk d + uptoBulkAll r
def uptoBulkEntries {H : Type} : List (Lit × DataW H) → Nat
  | [] => 0
  | x :: r => uptoBulkEntry x + uptoBulkEntries r
def uptoBulkEntry {H : Type} : Lit × DataW H → Nat
  | (.string bytes, d) => bytes.length + uptoBulk d + 1
  | (_, d) => uptoBulk d + 1
 end
def uptoSmall : (H : Type) → List (DataW H) → Bool := fun _ ds => decide (uptoBulkAll ds ≤ 1048576)
def OpenSpec.upto (s : _root_.Go.ChangeSpec) : _root_.Go.OpenSpec := { _root_.Go.OpenSpec.ofChange s with cond := some uptoSmall }

/-- 'gannetlaw13.NoiseSteps', WHERE WHAT IT READS IS OF BULK AT MOST 1048576: true; the input reads as it did. -/
def noiseStepsUptoRow : OpenClaim := { program := "ytcnjekballnncaa", sum := "a4d35a47b7220bfe27ec7e2ebf7c5b60f3b502fbf2e982e6a46220acc5f9abdd", func := "gannet/gannetlaw13.NoiseSteps", spec := "noiseSteps", unfollowed := true, recurses := true, apart := false, narrowed := true }
def NoiseStepsUptoSaid : Prop := noiseStepsUptoRow.holds Try.pinned (OpenSpec.upto noiseStepsSpec)

/-- 'gannetlaw13.NoiseJumps', WHERE WHAT IT READS IS OF BULK AT MOST 1048576: true; the input reads as it did. -/
def noiseJumpsUptoRow : OpenClaim := { program := "ytcnjekballnncaa", sum := "a4d35a47b7220bfe27ec7e2ebf7c5b60f3b502fbf2e982e6a46220acc5f9abdd", func := "gannet/gannetlaw13.NoiseJumps", spec := "noiseJumps", unfollowed := true, recurses := true, apart := false, narrowed := true }
def NoiseJumpsUptoSaid : Prop := noiseJumpsUptoRow.holds Try.pinned (OpenSpec.upto noiseJumpsSpec)

/-- 'gannetlaw13.NoiseLinear', WHERE WHAT IT READS IS OF BULK AT MOST 1048576: true; the input reads as it did. -/
def noiseLinearUptoRow : OpenClaim := { program := "ytcnjekballnncaa", sum := "a4d35a47b7220bfe27ec7e2ebf7c5b60f3b502fbf2e982e6a46220acc5f9abdd", func := "gannet/gannetlaw13.NoiseLinear", spec := "noiseLinear", unfollowed := true, recurses := true, apart := false, narrowed := true }
def NoiseLinearUptoSaid : Prop := noiseLinearUptoRow.holds Try.pinned (OpenSpec.upto noiseLinearSpec)

/-- 'gannetlaw13.NoiseGoes', WHERE WHAT IT READS IS OF BULK AT MOST 1048576: true; the input reads as it did. -/
def noiseGoesUptoRow : OpenClaim := { program := "ytcnjekballnncaa", sum := "a4d35a47b7220bfe27ec7e2ebf7c5b60f3b502fbf2e982e6a46220acc5f9abdd", func := "gannet/gannetlaw13.NoiseGoes", spec := "noiseGoes", unfollowed := true, recurses := true, apart := false, narrowed := true }
def NoiseGoesUptoSaid : Prop := noiseGoesUptoRow.holds Try.pinned (OpenSpec.upto noiseGoesSpec)

/-- 'gannetlaw13.NoiseFar', WHERE WHAT IT READS IS OF BULK AT MOST 1048576: true; the input reads as it did. -/
def noiseFarUptoRow : OpenClaim := { program := "ytcnjekballnncaa", sum := "a4d35a47b7220bfe27ec7e2ebf7c5b60f3b502fbf2e982e6a46220acc5f9abdd", func := "gannet/gannetlaw13.NoiseFar", spec := "noiseFar", unfollowed := true, recurses := true, apart := false, narrowed := true }
def NoiseFarUptoSaid : Prop := noiseFarUptoRow.holds Try.pinned (OpenSpec.upto noiseFarSpec)

/-- 'gannetlaw14.WavePlays', WHERE WHAT IT READS IS OF BULK AT MOST 1048576: true; the input reads as it did. -/
def wavePlaysUptoRow : OpenClaim := { program := "ytcnjekballnncaa", sum := "a4d35a47b7220bfe27ec7e2ebf7c5b60f3b502fbf2e982e6a46220acc5f9abdd", func := "gannet/gannetlaw14.WavePlays", spec := "wavePlays", unfollowed := true, recurses := true, apart := false, narrowed := true }
def WavePlaysUptoSaid : Prop := wavePlaysUptoRow.holds Try.pinned (OpenSpec.upto wavePlaysSpec)

/-- 'gannetlaw14.WaveParts', WHERE WHAT IT READS IS OF BULK AT MOST 1048576: true; the input reads as it did. -/
def wavePartsUptoRow : OpenClaim := { program := "ytcnjekballnncaa", sum := "a4d35a47b7220bfe27ec7e2ebf7c5b60f3b502fbf2e982e6a46220acc5f9abdd", func := "gannet/gannetlaw14.WaveParts", spec := "waveParts", unfollowed := true, recurses := true, apart := false, narrowed := true }
def WavePartsUptoSaid : Prop := wavePartsUptoRow.holds Try.pinned (OpenSpec.upto wavePartsSpec)

/-- 'gannetlaw14.WaveRound', WHERE WHAT IT READS IS OF BULK AT MOST 1048576: true; the input reads as it did. -/
def waveRoundUptoRow : OpenClaim := { program := "ytcnjekballnncaa", sum := "a4d35a47b7220bfe27ec7e2ebf7c5b60f3b502fbf2e982e6a46220acc5f9abdd", func := "gannet/gannetlaw14.WaveRound", spec := "waveRound", unfollowed := true, recurses := true, apart := false, narrowed := true }
def WaveRoundUptoSaid : Prop := waveRoundUptoRow.holds Try.pinned (OpenSpec.upto waveRoundSpec)

/-- 'gannettop.TopNoisy', WHERE WHAT IT READS IS OF BULK AT MOST 1048576: true; the input reads as it did. -/
def topNoisyUptoRow : OpenClaim := { program := "ytcnjekballnncaa", sum := "a4d35a47b7220bfe27ec7e2ebf7c5b60f3b502fbf2e982e6a46220acc5f9abdd", func := "gannet/gannettop.TopNoisy", spec := "topNoisy", unfollowed := true, recurses := true, apart := false, narrowed := true }
def TopNoisyUptoSaid : Prop := topNoisyUptoRow.holds Try.pinned (OpenSpec.upto topNoisySpec)

end Rows
end Go.Proofs.Ytcnjekballnncaa
