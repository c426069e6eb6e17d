/- A padded text's bytes. -/
import Derived.Test.YtjlpkndbnaknaaaGreatDoorI
namespace Go.Proofs.YtjlpkndbnaknaaaGreatDoor

theorem padL_lt (s : ByteArray) : ∀ c ∈ padL (bL s), c < 256 := by
  intro c hc
  rw [padL_split] at hc
  rcases List.mem_append.1 hc with h | h
  · exact bL_lt s c (List.mem_of_mem_take h)
  · exact endL_lt s c h
end Go.Proofs.YtjlpkndbnaknaaaGreatDoor
