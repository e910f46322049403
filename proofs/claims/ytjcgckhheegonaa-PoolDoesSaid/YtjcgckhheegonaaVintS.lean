/- Two library contracts at this program: how many bits a 64-bit number has, for every one; that a copy of a text of at most 2^48 bytes is that text, and nothing that was there turns. -/
import Derived.Shelf.Strconv.Itoa0
import Derived.Test.YtjcgckhheegonaaProg
namespace Go.Proofs
open Go.Shelf
